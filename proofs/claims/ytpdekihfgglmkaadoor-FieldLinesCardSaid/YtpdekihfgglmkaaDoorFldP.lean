/-
  Plain facts that the walks over package field and its reference need: forms byte by byte, what was quoted read back, lines and pieces by index: no program. Condition: none beyond each theorem's own hypotheses.
-/
import Derived.Test.YtpdekihfgglmkaaDoorFldS
import Derived.Lib.SplitLaws
import Derived.Lib.Join
import Derived.Lib.IndexBytes
namespace Go.Proofs.YtpdekihfgglmkaaDoor
open Go

theorem take_at {α : Type} (l : List α) (k : Nat) (x : α) (h : l[k]? = some x) : l.take (k + 1) = l.take k ++ [x] := by
  rw [List.take_add_one, h]; rfl
theorem at_lt {α : Type} {l : List α} {k : Nat} (h : k < l.length) : ∃ x, l[k]? = some x := ⟨l[k], List.getElem?_eq_getElem h⟩
theorem drop_at {α : Type} (l : List α) (k : Nat) (x : α) (h : l[k]? = some x) : l.drop k = x :: l.drop (k + 1) := by
  have hk := (List.getElem?_eq_some_iff.1 h).1
  rw [List.drop_eq_getElem_cons hk, (List.getElem?_eq_some_iff.1 h).2]

/-! ### Forms -/
theorem inner_snoc (l : List UInt8) (c : UInt8) : inner (l ++ [c]) = inner l ++ esc c := by simp [inner]
theorem inner_take (l : List UInt8) (k : Nat) (c : UInt8) (h : l[k]? = some c) : inner (l.take (k + 1)) = inner (l.take k) ++ esc c := by rw [take_at l k c h, inner_snoc]
theorem esc_le (c : UInt8) : (esc c).length ≤ 4 := by
  unfold esc
  split
  · simp
  · split <;> simp
theorem inner_le : ∀ l : List UInt8, (inner l).length ≤ 4 * l.length
  | [] => by simp [inner]
  | c :: l => by
    have e : inner (c :: l) = esc c ++ inner l := by simp [inner]
    have h1 := esc_le c
    have h2 := inner_le l
    rw [e, List.length_append, List.length_cons]
    omega
theorem inner_ge : ∀ l : List UInt8, l.length ≤ (inner l).length
  | [] => by simp [inner]
  | c :: l => by
    have e : inner (c :: l) = esc c ++ inner l := by simp [inner]
    have h1 := esc_ne c
    have h2 := inner_ge l
    rw [e, List.length_append, List.length_cons]
    omega
theorem inner_take_le (l : List UInt8) (k : Nat) : (inner (l.take k)).length ≤ 4 * l.length := by
  have h1 := inner_le (l.take k)
  have h2 : (l.take k).length ≤ l.length := by rw [List.length_take]; omega
  omega
theorem quote_le (l : List UInt8) : (quoteL l).length ≤ 4 * l.length + 2 := by
  unfold quoteL
  split
  · omega
  · have := inner_le l
    simp
    omega
theorem quote_ge (l : List UInt8) : l.length ≤ (quoteL l).length := by
  unfold quoteL
  split
  · omega
  · have := inner_ge l
    simp
    omega
theorem quote_ne (l : List UInt8) : quoteL l ≠ [] := by
  unfold quoteL
  split
  · next h =>
    intro e
    subst e
    simp [plainB] at h
  · simp
theorem esc_ctl_is (c : UInt8) (h : ctl c = true) : esc c = [92, 120, hexD (c.toNat / 16), hexD (c.toNat % 16)] := by unfold esc; rw [if_pos h]
theorem esc_sign_is (c : UInt8) (h : ctl c = false) (h2 : c = 34 ∨ c = 92) : esc c = [92, c] := by
  unfold esc
  rw [if_neg (by simp [h]), if_pos (by rcases h2 with rfl | rfl <;> rfl)]
theorem esc_else_is (c : UInt8) (h : ctl c = false) (h2 : c ≠ 34) (h3 : c ≠ 92) : esc c = [c] := by
  unfold esc
  rw [if_neg (by simp [h]), if_neg (by simp [h2, h3])]
theorem pln_iff (c : UInt8) : pln c = true ↔ c.toNat ≠ 44 ∧ c.toNat ≠ 34 ∧ c.toNat ≠ 92 ∧ ¬ (c.toNat < 32) ∧ c.toNat ≠ 127 := by
  have e : ∀ k : UInt8, (c = k) = (c.toNat = k.toNat) := fun k => propext ⟨fun h => by rw [h], fun h => UInt8.toNat_inj.1 h⟩
  unfold pln ctl
  simp only [Bool.not_eq_true', Bool.or_eq_false_iff, beq_eq_false_iff_ne, decide_eq_false_iff_not, ne_eq, e, not_or]
  simp [and_assoc]
theorem pln_high (c : UInt8) (h : 128 ≤ c.toNat) : pln c = true := (pln_iff c).2 ⟨by omega, by omega, by omega, by omega, by omega⟩
theorem plain_iff (l : List UInt8) : plainB l = true ↔ l.all pln = true ∧ l ≠ [] ∧ l[0]? ≠ some 32 ∧ l[l.length - 1]? ≠ some 32 := by
  unfold plainB
  rw [Bool.and_eq_true, Bool.and_eq_true, Bool.and_eq_true, List.head?_eq_getElem?, List.getLast?_eq_getElem?]
  simp [and_assoc]
theorem plain_no_all (l : List UInt8) (h : l.all pln = false) : plainB l = false := by
  cases hp : plainB l with
  | false => rfl
  | true => rw [((plain_iff l).1 hp).1] at h; cases h
theorem all_stop {p : UInt8 → Bool} {l : List UInt8} {k : Nat} {c : UInt8} (h : l[k]? = some c) (hc : p c = false) : l.all p = false := by
  cases ha : l.all p with
  | false => rfl
  | true =>
    rw [List.all_eq_true] at ha
    rw [ha c (List.mem_iff_getElem?.2 ⟨k, h⟩)] at hc
    cases hc
theorem all_take (p : UInt8 → Bool) (l : List UInt8) (k : Nat) (c : UInt8) (h : l[k]? = some c) (ht : (l.take k).all p = true) (hc : p c = true) : (l.take (k + 1)).all p = true := by
  rw [take_at l k c h, List.all_append, ht]
  simp [hc]

/-! ### What was quoted, read back by cutting at backslashes -/
/-- The value of a hexadecimal digit as the program takes it. -/
def digV (c : UInt8) : Nat := (Lib.indexByte [48, 49, 50, 51, 52, 53, 54, 55, 56, 57, 97, 98, 99, 100, 101, 102] c % 256).toNat
theorem digV_lt (c : UInt8) : digV c < 256 := by unfold digV; omega
theorem digV_hexD : ∀ n, n < 16 → digV (hexD n) = n := by decide
/-- What the program reads out of the inner part of a form. -/
def cutQ : List UInt8 → List UInt8
  | [] => []
  | c :: r => if c ≠ 92 then c :: cutQ r else match r with
    | [] => []
    | d :: q => match q with
      | x :: y :: z => if d = 120 then UInt8.ofNat (digV x * 16 + digV y) :: cutQ z else d :: cutQ (x :: y :: z)
      | [x] => d :: cutQ [x]
      | [] => [d]
theorem cutQ_nil : cutQ [] = [] := by rw [cutQ.eq_def]
theorem cutQ_other (c : UInt8) (r : List UInt8) (h : c ≠ 92) : cutQ (c :: r) = c :: cutQ r := by rw [cutQ.eq_def]; simp [h]
theorem cutQ_end : cutQ [92] = [] := by rw [cutQ.eq_def]; rfl
theorem cutQ_hex (x y : UInt8) (z : List UInt8) : cutQ (92 :: 120 :: x :: y :: z) = UInt8.ofNat (digV x * 16 + digV y) :: cutQ z := by rw [cutQ.eq_def]; rfl
theorem cutQ_sign (d : UInt8) (q : List UInt8) (h : d ≠ 120 ∨ q.length < 2) : cutQ (92 :: d :: q) = d :: cutQ q := by
  rw [cutQ.eq_def]
  simp only [ne_eq, not_true_eq_false, if_false]
  match q, h with
  | [], _ => simp [cutQ_nil]
  | [x], _ => rfl
  | x :: y :: z, h =>
    have : d ≠ 120 := by rcases h with h | h; exact h; simp at h; omega
    simp [this]
theorem cutQ_pre : ∀ (p r : List UInt8), (92 : UInt8) ∉ p → cutQ (p ++ r) = p ++ cutQ r
  | [], _, _ => rfl
  | c :: p, r, h => by
    have h1 : c ≠ 92 := fun e => h (by simp [e])
    rw [List.cons_append, cutQ_other _ _ h1, cutQ_pre p r (fun hm => h (by simp [hm]))]
    rfl
theorem cutQ_esc (c : UInt8) (r : List UInt8) : cutQ (esc c ++ r) = c :: cutQ r := by
  have hc := c.toNat_lt
  cases h : ctl c with
  | true =>
    rw [esc_ctl_is c h]
    show cutQ (92 :: 120 :: hexD (c.toNat / 16) :: hexD (c.toNat % 16) :: r) = _
    rw [cutQ_hex, digV_hexD _ (by omega), digV_hexD _ (by omega), show c.toNat / 16 * 16 + c.toNat % 16 = c.toNat by omega, UInt8.ofNat_toNat]
  | false =>
    by_cases h2 : c = 34 ∨ c = 92
    · rw [esc_sign_is c h h2]
      show cutQ (92 :: c :: r) = _
      rw [cutQ_sign c r (Or.inl (by rcases h2 with rfl | rfl <;> decide))]
    · rw [esc_else_is c h (fun e => h2 (Or.inl e)) (fun e => h2 (Or.inr e))]
      exact cutQ_other c r (fun e => h2 (Or.inr e))
theorem cutQ_inner : ∀ l : List UInt8, cutQ (inner l) = l
  | [] => cutQ_nil
  | c :: l => by
    have e : inner (c :: l) = esc c ++ inner l := by simp [inner]
    rw [e, cutQ_esc, cutQ_inner l]
theorem cutQ_le : ∀ (n : Nat) (l : List UInt8), l.length ≤ n → (cutQ l).length ≤ l.length
  | 0, l, h => by
    rw [List.length_eq_zero_iff.1 (Nat.le_zero.1 h), cutQ_nil]
    exact Nat.le_refl _
  | n + 1, [], _ => by rw [cutQ_nil]; exact Nat.le_refl _
  | n + 1, c :: r, h => by
    simp only [List.length_cons] at h
    by_cases hc : c = 92
    · subst hc
      match r, h with
      | [], _ => rw [cutQ_end]; simp
      | d :: q, h =>
        simp only [List.length_cons] at h
        by_cases hd : d ≠ 120 ∨ q.length < 2
        · rw [cutQ_sign d q hd]
          have := cutQ_le n q (by omega)
          simp only [List.length_cons]
          omega
        · obtain ⟨rfl, hq⟩ : d = 120 ∧ 2 ≤ q.length := ⟨Classical.byContradiction fun h => hd (Or.inl h), by rcases Nat.lt_or_ge q.length 2 with h | h; exact absurd (Or.inr h) hd; exact h⟩
          match q, hq, h with
          | x :: y :: z, _, h =>
            simp only [List.length_cons] at h
            rw [cutQ_hex]
            have := cutQ_le n z (by omega)
            simp only [List.length_cons]
            omega
    · rw [cutQ_other c r hc]
      have := cutQ_le n r (by omega)
      simp only [List.length_cons]
      omega
/-- What the program takes a string for. -/
def guessL (s : List UInt8) : List UInt8 := if 2 ≤ s.length ∧ s[0]? = some 34 ∧ s[s.length - 1]? = some 34 then cutQ ((s.drop 1).take (s.length - 2)) else s
theorem guess_le (s : List UInt8) : (guessL s).length ≤ s.length := by
  unfold guessL
  split
  · have := cutQ_le _ ((s.drop 1).take (s.length - 2)) (Nat.le_refl _)
    rw [List.length_take, List.length_drop] at this
    omega
  · exact Nat.le_refl _
theorem guess_quote (t : List UInt8) : guessL (quoteL t) = t := by
  unfold guessL quoteL
  cases h : plainB t with
  | true =>
    rw [if_pos rfl, if_neg]
    rintro ⟨_, h2, _⟩
    obtain ⟨c, r, rfl, hc⟩ := plain_head h
    simp at h2
    exact hc h2
  | false =>
    simp only [Bool.false_eq_true, if_false]
    have hl : (34 :: (inner t ++ [34])).length = (inner t).length + 2 := by simp
    rw [if_pos ⟨by omega, rfl, by rw [hl]; simp⟩, hl]
    rw [show ((34 :: (inner t ++ [34])).drop 1).take ((inner t).length + 2 - 2) = inner t by simp]
    exact cutQ_inner t
theorem unq_guess (s : List UInt8) : unq s = if quoteL (guessL s) = s then some (guessL s) else none := by
  split
  · next h => exact (unq_iff _ _).2 h
  · next h =>
    cases hu : unq s with
    | none => rfl
    | some t =>
      have := (unq_iff _ _).1 hu
      rw [← this, guess_quote] at h
      exact absurd rfl h

/-! ### What was quoted, read byte by byte -/
theorem readL_fuel : ∀ (n : Nat) (f g : Nat) (l : List UInt8), l.length ≤ n → l.length < f → l.length < g → readL f l = readL g l
  | 0, f + 1, g + 1, [], _, _, _ => rfl
  | 0, _, _, c :: l, h, _, _ => by simp at h
  | n + 1, 0, _, _, _, h, _ => absurd h (Nat.not_lt_zero _)
  | n + 1, _, 0, _, _, _, h => absurd h (Nat.not_lt_zero _)
  | n + 1, f + 1, g + 1, [], _, _, _ => rfl
  | n + 1, f + 1, g + 1, c :: l, h, h1, h2 => by
    unfold readL
    by_cases h0 : (oneL (c :: l)).2 = 0
    · rw [if_pos h0, if_pos h0]
    · rw [if_neg h0, if_neg h0]
      simp only [List.length_cons] at h h1 h2
      have hd : ((c :: l).drop (oneL (c :: l)).2).length ≤ l.length := by rw [List.length_drop, List.length_cons]; omega
      rw [readL_fuel n f g _ (by omega) (by omega) (by omega)]
/-- The inner part of a form, read. -/
def readA (l : List UInt8) : Option (List UInt8) := readL (l.length + 1) l
theorem readA_nil : readA [] = some [] := rfl
theorem readA_bad (l : List UInt8) (hl : l ≠ []) (h : (oneL l).2 = 0) : readA l = none := by
  unfold readA
  cases l with
  | nil => exact absurd rfl hl
  | cons c r => unfold readL; rw [if_pos h]
theorem readA_step (l : List UInt8) (hl : l ≠ []) (h : (oneL l).2 ≠ 0) : readA l = (readA (l.drop (oneL l).2)).map ((oneL l).1 :: ·) := by
  unfold readA
  cases l with
  | nil => exact absurd rfl hl
  | cons c r =>
    conv => lhs; unfold readL
    rw [if_neg h]
    have hd : ((c :: r).drop (oneL (c :: r)).2).length ≤ r.length := by rw [List.length_drop, List.length_cons]; omega
    rw [readL_fuel _ (c :: r).length (((c :: r).drop (oneL (c :: r)).2).length + 1) _ (Nat.le_refl _) (by rw [List.length_cons]; omega) (by omega)]
theorem unq_plain (s : List UInt8) (h : plainB s = true) : unq s = some s := by unfold unq; rw [if_pos h]
theorem unq_not (s : List UInt8) (h : plainB s = false) (h2 : ¬ (2 ≤ s.length ∧ s[0]? = some 34 ∧ s[s.length - 1]? = some 34)) : unq s = none := by
  unfold unq
  rw [if_neg (by simp [h]), List.head?_eq_getElem?, List.getLast?_eq_getElem?, if_neg h2]
theorem unq_read (s : List UInt8) (h : plainB s = false) (h2 : 2 ≤ s.length ∧ s[0]? = some 34 ∧ s[s.length - 1]? = some 34) :
    unq s = (readA ((s.drop 1).take (s.length - 2))).bind fun t => if quoteL t = s then some t else none := by
  unfold unq
  rw [if_neg (by simp [h]), List.head?_eq_getElem?, List.getLast?_eq_getElem?, if_pos h2]
  unfold readA
  rw [readL_fuel _ (s.length + 1) (((s.drop 1).take (s.length - 2)).length + 1) _ (Nat.le_refl _) (by rw [List.length_take, List.length_drop]; omega) (by omega)]
theorem unq_le (s t : List UInt8) (h : unq s = some t) : t.length ≤ s.length := by
  have := (unq_iff _ _).1 h
  have h2 := quote_ge t
  rw [this] at h2
  exact h2

/-! ### Lines -/
theorem line_snoc : ∀ (l : List (List UInt8)) (x : List UInt8), l ≠ [] → lineL (l ++ [x]) = lineL l ++ 44 :: quoteL x
  | [], _, h => absurd rfl h
  | [y], x, _ => rfl
  | y :: z :: l, x, _ => by
    have ih := line_snoc (z :: l) x (by simp)
    have e1 : lineL (y :: z :: l ++ [x]) = quoteL y ++ 44 :: lineL (z :: l ++ [x]) := rfl
    have e2 : lineL (y :: z :: l) = quoteL y ++ 44 :: lineL (z :: l) := rfl
    rw [e1, e2, ih]
    simp
theorem line_take (l : List (List UInt8)) (k : Nat) (x : List UInt8) (h : l[k]? = some x) : lineL (l.take (k + 1)) = if k = 0 then quoteL x else lineL (l.take k) ++ 44 :: quoteL x := by
  have hk := (List.getElem?_eq_some_iff.1 h).1
  rw [take_at l k x h]
  split
  · next h0 => subst h0; rfl
  · next h0 => exact line_snoc _ _ (by intro e; have := congrArg List.length e; rw [List.length_take, List.length_nil] at this; omega)
theorem line_join : ∀ (l : List (List UInt8)), Lib.join (l.map quoteL) [44] = lineL l
  | [] => rfl
  | [x] => by rw [List.map_cons, List.map_nil, Lib.join_one]; rfl
  | x :: y :: l => by
    have ih := line_join (y :: l)
    rw [List.map_cons, Lib.join_cons] at ih ⊢
    have e2 : lineL (x :: y :: l) = quoteL x ++ 44 :: lineL (y :: l) := rfl
    rw [e2, ← ih]
    simp [Lib.joinTail]
theorem line_le (B : Nat) : ∀ (l : List (List UInt8)), (∀ x ∈ l, x.length ≤ B) → (lineL l).length ≤ l.length * (4 * B + 3)
  | [], _ => by simp [lineL]
  | [x], h => by
    have := h x (by simp)
    have h2 := quote_le x
    show (quoteL x).length ≤ _
    simp
    omega
  | x :: y :: l, h => by
    have ih := line_le B (y :: l) (fun z hz => h z (by simp [hz]))
    have e2 : lineL (x :: y :: l) = quoteL x ++ 44 :: lineL (y :: l) := rfl
    have := h x (by simp)
    have h2 := quote_le x
    rw [e2, List.length_append, List.length_cons, List.length_cons, Nat.succ_mul]
    omega
theorem line_app : ∀ (a b : List (List UInt8)), a ≠ [] → b ≠ [] → lineL (a ++ b) = lineL a ++ 44 :: lineL b
  | [], _, h, _ => absurd rfl h
  | [x], y :: b, _, _ => rfl
  | [_], [], _, h => absurd rfl h
  | x :: y :: a, b, _, hb => by
    have ih := line_app (y :: a) b (by simp) hb
    have e1 : lineL (x :: y :: a ++ b) = quoteL x ++ 44 :: lineL (y :: a ++ b) := rfl
    have e2 : lineL (x :: y :: a) = quoteL x ++ 44 :: lineL (y :: a) := rfl
    rw [e1, e2, ih]
    simp

/-! ### The end of a field, by index -/
theorem qend_le : ∀ (n : Nat) (l : List UInt8), l.length ≤ n → qend l ≤ l.length
  | 0, l, h => by rw [List.length_eq_zero_iff.1 (Nat.le_zero.1 h)]; exact Nat.le_refl _
  | n + 1, [], _ => Nat.le_refl _
  | n + 1, c :: r, h => by
    simp only [List.length_cons] at h
    by_cases h1 : c = 34
    · subst h1; rw [qend_34]; simp
    · by_cases h2 : c = 92
      · subst h2
        match r, h with
        | [], _ => rw [qend.eq_def]; simp
        | d :: q, h =>
          simp only [List.length_cons] at h
          rw [qend_92]
          have := qend_le n q (by omega)
          simp only [List.length_cons]
          omega
      · rw [qend_other c r h1 h2]
        have := qend_le n r (by omega)
        simp only [List.length_cons]
        omega
theorem end_le (l : List UInt8) : endL l ≤ l.length := by
  unfold endL
  split
  · exact Nat.le_refl _
  · next c r =>
    split
    · have := qend_le _ r (Nat.le_refl _)
      simp only [List.length_cons]
      omega
    · exact (List.takeWhile_prefix _).length_le
theorem end_q (r : List UInt8) : endL (34 :: r) = 1 + qend r := by unfold endL; rw [if_pos rfl]
theorem end_p (l : List UInt8) (h : l[0]? ≠ some 34) : endL l = (l.takeWhile (· != 44)).length := by
  unfold endL
  cases l with
  | nil => rfl
  | cons c r =>
    simp at h
    simp only []
    rw [if_neg h]
theorem tw_step (l : List UInt8) (k : Nat) (c : UInt8) (h : l[k]? = some c) (hc : c ≠ 44) : ((l.drop k).takeWhile (· != 44)).length = 1 + ((l.drop (k + 1)).takeWhile (· != 44)).length := by
  rw [drop_at l k c h, List.takeWhile_cons_of_pos (by simpa using hc), List.length_cons]
  omega
theorem tw_stop (l : List UInt8) (k : Nat) (h : l[k]? = some 44) : ((l.drop k).takeWhile (· != 44)).length = 0 := by
  rw [drop_at l k 44 h, List.takeWhile_cons_of_neg (by decide)]
  rfl
theorem qe_stop (l : List UInt8) (k : Nat) (h : l[k]? = some 34) : qend (l.drop k) = 1 := by rw [drop_at l k 34 h, qend_34]
theorem qe_step (l : List UInt8) (k : Nat) (c : UInt8) (h : l[k]? = some c) (h1 : c ≠ 34) (h2 : c ≠ 92) : qend (l.drop k) = 1 + qend (l.drop (k + 1)) := by rw [drop_at l k c h, qend_other c _ h1 h2]
theorem qe_esc (l : List UInt8) (k : Nat) (h : l[k]? = some 92) (hk : k + 1 < l.length) : qend (l.drop k) = 2 + qend (l.drop (k + 2)) := by
  obtain ⟨d, hd⟩ := at_lt hk
  rw [drop_at l k 92 h, drop_at l (k + 1) d hd, qend_92]
theorem qe_last (l : List UInt8) (k : Nat) (h : l[k]? = some 92) (hk : ¬ k + 1 < l.length) : qend (l.drop k) = 1 := by
  rw [drop_at l k 92 h, List.drop_eq_nil_of_le (by omega), qend.eq_def]
  rfl
theorem qe_end (l : List UInt8) (k : Nat) (h : ¬ k < l.length) : qend (l.drop k) = 0 := by
  rw [List.drop_eq_nil_of_le (by omega), qend.eq_def]

/-! ### Texts -/
theorem cut_take (l : List UInt8) (k : Nat) (h : l[k]? = some 10) : cutL (l.take (k + 1)) = ((cutL (l.take k)).1 ++ [(cutL (l.take k)).2], []) := by rw [take_at l k 10 h, cutL_feed]
theorem cut_take' (l : List UInt8) (k : Nat) (c : UInt8) (h : l[k]? = some c) (hc : c ≠ 10) : cutL (l.take (k + 1)) = ((cutL (l.take k)).1, (cutL (l.take k)).2 ++ [c]) := by rw [take_at l k c h, cutL_byte _ _ hc]
theorem text_take (l : List (List UInt8)) (k : Nat) (x : List UInt8) (h : l[k]? = some x) : textL (l.take (k + 1)) = textL (l.take k) ++ x ++ [10] := by rw [take_at l k x h]; simp [textL]
theorem text_join : ∀ (l : List (List UInt8)), l ≠ [] → Lib.join l [10] ++ [10] = textL l
  | [], h => absurd rfl h
  | [x], _ => by rw [Lib.join_one]; simp [textL]
  | x :: y :: l, _ => by
    have ih := text_join (y :: l) (by simp)
    rw [Lib.join_cons] at ih ⊢
    have e : textL (x :: y :: l) = x ++ 10 :: textL (y :: l) := by simp [textL]
    rw [e, ← ih]
    simp [Lib.joinTail]
theorem text_nil (l : List (List UInt8)) (h : (textL l).length = 0) : l = [] := by
  cases l with
  | nil => rfl
  | cons x l => simp [textL] at h
theorem cutL_from (o : List (List UInt8)) : ∀ (l c : List UInt8), l.foldl (fun s b => if b == 10 then (s.1 ++ [s.2], []) else (s.1, s.2 ++ [b])) (o, c) = (o ++ (l.foldl (fun s b => if b == 10 then (s.1 ++ [s.2], []) else (s.1, s.2 ++ [b])) (([] : List (List UInt8)), c)).1, (l.foldl (fun s b => if b == 10 then (s.1 ++ [s.2], []) else (s.1, s.2 ++ [b])) (([] : List (List UInt8)), c)).2)
  | [], c => by simp
  | b :: l, c => by
    rw [List.foldl_cons, List.foldl_cons]
    by_cases hb : (b == 10) = true
    · simp only [hb, if_true]
      rw [cutL_from (o ++ [c]) l [], cutL_from ([] ++ [c]) l []]
      simp
    · simp only [hb]
      exact cutL_from o l (c ++ [b])
/-- The pieces between line feeds are the lines of the text that ends with one more. -/
theorem split_cut : ∀ (k : Nat) (l : List UInt8), Lib.count l [10] = k → cutL (l ++ [10]) = (Lib.splitK [10] 0 k l, [])
  | k, l, hk => by
    rcases Lib.index_spec l [10] with ⟨hm, hn⟩ | ⟨i, hi, hil, ho, hf⟩
    · have h0 : k = 0 := by rw [← hk, Lib.count_miss hm]
      subst h0
      have hno : ∀ b ∈ l, b ≠ 10 := by
        intro b hb e
        subst e
        have h1 : Lib.indexByte l 10 = -1 := by rw [← Lib.index_one]; exact hm
        obtain ⟨j, hj⟩ := List.mem_iff_getElem?.1 hb
        exact Lib.indexByte_none h1 j hj
      have e := cutL_line l [] [] hno
      rw [cutL_feed]
      unfold cutL
      rw [e]
      rfl
    · obtain ⟨j, rfl⟩ : ∃ j, k = j + 1 := ⟨k - 1, by rw [← hk, Lib.count_hit (by simp) hi]; omega⟩
      have hj : Lib.count (l.drop (i + 1)) [10] = j := by
        have := Lib.count_hit (by simp) hi
        rw [hk] at this
        simp at this
        omega
      have hb : Lib.indexByte l 10 = i := by rw [← Lib.index_one]; exact hi
      obtain ⟨hat, hbef⟩ := Lib.indexByte_some hb
      have hlt := (List.getElem?_eq_some_iff.1 hat).1
      have ih := split_cut j (l.drop (i + 1)) hj
      have el : l = l.take i ++ 10 :: l.drop (i + 1) := by
        rw [← drop_at l i 10 hat, List.take_append_drop]
      have hno : ∀ b ∈ l.take i, b ≠ 10 := by
        intro b hb e
        subst e
        obtain ⟨m, hm⟩ := List.mem_iff_getElem?.1 hb
        rw [List.getElem?_take] at hm
        split at hm
        · next hmi => exact hbef m hmi hm
        · cases hm
      have e1 := cutL_line (l.take i) [] [] hno
      have e2 : cutL (l ++ [10]) = ([l.take i] ++ (cutL (l.drop (i + 1) ++ [10])).1, (cutL (l.drop (i + 1) ++ [10])).2) := by
        conv => lhs; rw [el]
        unfold cutL
        rw [List.append_assoc, List.foldl_append, e1, List.cons_append, List.foldl_cons]
        have := cutL_from [l.take i] (l.drop (i + 1) ++ [10]) []
        simp at this ⊢
        exact this
      have e3 : Lib.splitK [10] 0 (j + 1) l = if Lib.index l [10] == -1 then [l] else l.take ((Lib.index l [10]).toNat + 0) :: Lib.splitK [10] 0 j (l.drop ((Lib.index l [10]).toNat + [10].length)) := rfl
      rw [e2, ih, e3]
      have hm : ¬ (Lib.index l [10] == -1) = true := by rw [hi]; simp
      rw [if_neg hm, hi]
      simp
  termination_by k => k
  decreasing_by all_goals omega
end Go.Proofs.YtpdekihfgglmkaaDoor
