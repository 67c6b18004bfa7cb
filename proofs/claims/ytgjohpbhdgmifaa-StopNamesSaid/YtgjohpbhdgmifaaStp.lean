/-
  Plain facts about tables of stops: the first bad stop, the first stop with an identifier, the set of the zones, the stops of a zone, the step-free stops: no program. Condition: none beyond each theorem's own hypotheses.
-/
import Derived.Test.YtgjohpbhdgmifaaIdt
import Derived.Test.YtgjohpbhdgmifaaBit
namespace Go.Proofs.Ytgjohpbhdgmifaa
open Go

/-- A stop: its identifier, its zone, whether it is step-free, its change time. -/
abbrev St := List UInt8 × Int × Bool × Int
/-- The identifiers. -/
def idsS (l : List St) : List (List UInt8) := l.map fun x => x.1
theorem ids_len (l : List St) : (idsS l).length = l.length := by unfold idsS; rw [List.length_map]
theorem ids_take {l : List St} {k : Nat} {x : St} (h : l[k]? = some x) : idsS (l.take (k + 1)) = idsS (l.take k) ++ [x.1] := by
  unfold idsS
  rw [take_at l k x h, List.map_append]
  rfl
theorem ids_mem {l : List St} {id : List UInt8} : id ∈ idsS l ↔ ∃ (j : Nat) (x : St), l[j]? = some x ∧ x.1 = id := by
  unfold idsS
  rw [List.mem_map]
  constructor
  · rintro ⟨x, hx, rfl⟩
    obtain ⟨j, hj⟩ := List.mem_iff_getElem?.1 hx
    exact ⟨j, x, hj, rfl⟩
  · rintro ⟨j, x, hx, rfl⟩
    exact ⟨x, List.mem_iff_getElem?.2 ⟨j, hx⟩, rfl⟩

/-! ### Check -/
/-- The zone or the change time is out of its range. -/
def farS (z c : Int) : Prop := z < 0 ∨ 16 ≤ z ∨ c < 0 ∨ 3600 < c
instance (z c : Int) : Decidable (farS z c) := by unfold farS; infer_instance
/-- The error of one stop behind stops with these identifiers. -/
def badS (seen : List (List UInt8)) (x : St) : Int := if validB x.1 = false then 12 else if x.1 ∈ seen then 6 else if farS x.2.1 x.2.2.2 then 2 else 0
theorem bad_name {seen : List (List UInt8)} {x : St} (h : validB x.1 = false) : badS seen x = 12 := by unfold badS; rw [if_pos h]
theorem bad_twice {seen : List (List UInt8)} {x : St} (h : validB x.1 = true) (h2 : x.1 ∈ seen) : badS seen x = 6 := by unfold badS; rw [if_neg (by rw [h]; simp), if_pos h2]
theorem bad_far {seen : List (List UInt8)} {x : St} (h : validB x.1 = true) (h2 : x.1 ∉ seen) (h3 : farS x.2.1 x.2.2.2) : badS seen x = 2 := by unfold badS; rw [if_neg (by rw [h]; simp), if_neg h2, if_pos h3]
theorem bad_none {seen : List (List UInt8)} {x : St} (h : validB x.1 = true) (h2 : x.1 ∉ seen) (h3 : ¬ farS x.2.1 x.2.2.2) : badS seen x = 0 := by unfold badS; rw [if_neg (by rw [h]; simp), if_neg h2, if_neg h3]
theorem bad_zero {seen : List (List UInt8)} {x : St} (h : badS seen x = 0) : validB x.1 = true ∧ x.1 ∉ seen ∧ ¬ farS x.2.1 x.2.2.2 := by
  unfold badS at h
  split at h
  · simp at h
  · next h1 =>
    split at h
    · simp at h
    · next h2 =>
      split at h
      · simp at h
      · next h3 => exact ⟨by simpa using h1, h2, h3⟩
/-- The first bad stop from here on. -/
def chkF (seen : List (List UInt8)) (k : Nat) : List St → Int × Int
  | [] => (0, 0)
  | x :: r => if badS seen x = 0 then chkF (seen ++ [x.1]) (k + 1) r else ((k : Int), badS seen x)
/-- What Check answers. -/
def chkT (l : List St) : Int × Int := if 64 < l.length then (0, 5) else chkF [] 0 l
theorem chkT_many {l : List St} (h : 64 < l.length) : chkT l = (0, 5) := by unfold chkT; rw [if_pos h]
theorem chkT_few {l : List St} (h : l.length ≤ 64) : chkT l = chkF [] 0 l := by unfold chkT; rw [if_neg (by omega)]
theorem chkT_start {l : List St} (h : l.length ≤ 64) : chkT l = chkF (idsS (l.take 0)) 0 (l.drop 0) := by rw [chkT_few h]; rfl
theorem chkF_good {seen : List (List UInt8)} {k : Nat} {x : St} {r : List St} (h : badS seen x = 0) : chkF seen k (x :: r) = chkF (seen ++ [x.1]) (k + 1) r := by
  conv => lhs; unfold chkF
  rw [if_pos h]
theorem chkF_bad {seen : List (List UInt8)} {k : Nat} {x : St} {r : List St} (h : badS seen x ≠ 0) : chkF seen k (x :: r) = ((k : Int), badS seen x) := by
  unfold chkF
  rw [if_neg h]
theorem chkT_next {l : List St} {k : Nat} {x : St} (hr : chkT l = chkF (idsS (l.take k)) k (l.drop k)) (h : l[k]? = some x) (hb : badS (idsS (l.take k)) x = 0) : chkT l = chkF (idsS (l.take (k + 1))) (k + 1) (l.drop (k + 1)) := by
  rw [hr, drop_at l k x h, chkF_good hb, ids_take h]
theorem chkT_stop {l : List St} {k : Nat} {x : St} (hr : chkT l = chkF (idsS (l.take k)) k (l.drop k)) (h : l[k]? = some x) {e : Int} (hb : badS (idsS (l.take k)) x = e) (he : e ≠ 0) : chkT l = ((k : Int), e) := by
  rw [hr, drop_at l k x h, chkF_bad (by rw [hb]; exact he), hb]
theorem chkT_done {l : List St} {k : Nat} (hr : chkT l = chkF (idsS (l.take k)) k (l.drop k)) (h : l.length ≤ k) : chkT l = (0, 0) := by
  rw [hr, List.drop_of_length_le h]
  rfl
theorem chkF_zero : ∀ (l : List St) (seen : List (List UInt8)) (k : Nat), (chkF seen k l).2 = 0 → chkF seen k l = (0, 0)
  | [], _, _, _ => rfl
  | x :: r, seen, k, h => by
    by_cases hb : badS seen x = 0
    · rw [chkF_good hb] at h ⊢
      exact chkF_zero r _ _ h
    · rw [chkF_bad hb] at h
      exact absurd h hb
theorem chkT_zero {l : List St} (h : (chkT l).2 = 0) : l.length ≤ 64 ∧ chkT l = (0, 0) := by
  rcases Nat.lt_or_ge 64 l.length with h1 | h1
  · rw [chkT_many h1] at h
    simp at h
  · refine ⟨h1, ?_⟩
    rw [chkT_few h1] at h ⊢
    exact chkF_zero _ _ _ h
theorem chkF_ok : ∀ (l : List St) (seen : List (List UInt8)) (k : Nat), (chkF seen k l).2 = 0 → ∀ (j : Nat) x, l[j]? = some x → badS (seen ++ idsS (l.take j)) x = 0
  | [], _, _, _, j, x, hx => by simp at hx
  | y :: r, seen, k, h, j, x, hx => by
    by_cases hb : badS seen y = 0
    · rw [chkF_good hb] at h
      cases j with
      | zero =>
        simp at hx
        subst hx
        simpa [idsS] using hb
      | succ j =>
        rw [List.getElem?_cons_succ] at hx
        have := chkF_ok r _ _ h j x hx
        rw [List.take_succ_cons]
        simpa [idsS] using this
    · rw [chkF_bad hb] at h
      exact absurd h hb
/-- A table without a bad stop: each stop is good behind the earlier ones. -/
theorem chkT_ok {l : List St} (h : (chkT l).2 = 0) {j : Nat} {x : St} (hx : l[j]? = some x) : badS (idsS (l.take j)) x = 0 := by
  have h1 := (chkT_zero h).1
  rw [chkT_few h1] at h
  exact chkF_ok l [] 0 h j x hx
theorem chkF_first : ∀ (l : List St) (seen : List (List UInt8)) (k : Nat), (chkF seen k l).2 ≠ 0 → ∃ j, j < l.length ∧ (chkF seen k l).1 = ((k + j : Nat) : Int) ∧ chkF seen k (l.take j) = (0, 0) ∧ chkF seen k (l.take (j + 1)) = chkF seen k l
  | [], _, _, h => absurd rfl h
  | y :: r, seen, k, h => by
    by_cases hb : badS seen y = 0
    · rw [chkF_good hb] at h
      obtain ⟨j, h1, h2, h3, h4⟩ := chkF_first r _ _ h
      refine ⟨j + 1, by simpa using h1, ?_, ?_, ?_⟩
      · rw [chkF_good hb, h2]
        congr 1
        omega
      · rw [List.take_succ_cons, chkF_good hb, h3]
      · rw [List.take_succ_cons, chkF_good hb, chkF_good hb, h4]
    · refine ⟨0, by simp, ?_, rfl, ?_⟩
      · rw [chkF_bad hb]
        rfl
      · rw [List.take_succ_cons, chkF_bad hb, chkF_bad hb]
/-- The stops ahead of the first bad one are a good table; with it they have its error. -/
theorem chkT_first {l : List St} (hl : l.length ≤ 64) (h : (chkT l).2 ≠ 0) : ∃ j, j < l.length ∧ (chkT l).1 = (j : Int) ∧ chkT (l.take j) = (0, 0) ∧ chkT (l.take (j + 1)) = chkT l := by
  rw [chkT_few hl] at h
  obtain ⟨j, h1, h2, h3, h4⟩ := chkF_first l [] 0 h
  refine ⟨j, h1, ?_, ?_, ?_⟩
  · rw [chkT_few hl, h2, Nat.zero_add]
  · rw [chkT_few (by rw [List.length_take]; omega), h3]
  · rw [chkT_few (by rw [List.length_take]; omega), chkT_few hl, h4]
theorem chkT_range (l : List St) : 0 ≤ (chkT l).1 ∧ (chkT l).1 ≤ 64 := by
  rcases Nat.lt_or_ge 64 l.length with h1 | h1
  · rw [chkT_many h1]; decide
  · by_cases h : (chkT l).2 = 0
    · rw [(chkT_zero h).2]; decide
    · obtain ⟨j, h2, h3, _⟩ := chkT_first h1 h
      rw [h3]
      omega

/-! ### Find -/
/-- The index of the first stop with an identifier from here on, or -1. -/
def fndF (id : List UInt8) (k : Nat) : List St → Int
  | [] => -1
  | x :: r => if x.1 = id then (k : Int) else fndF id (k + 1) r
def fndT (l : List St) (id : List UInt8) : Int := fndF id 0 l
theorem fndT_start (l : List St) (id : List UInt8) : fndT l id = fndF id 0 (l.drop 0) := rfl
theorem fndF_hit {id : List UInt8} {k : Nat} {l : List St} {x : St} (h : l[k]? = some x) (hx : x.1 = id) : fndF id k (l.drop k) = (k : Int) := by
  rw [drop_at l k x h]
  unfold fndF
  rw [if_pos hx]
theorem fndF_miss {id : List UInt8} {k : Nat} {l : List St} {x : St} (h : l[k]? = some x) (hx : x.1 ≠ id) : fndF id k (l.drop k) = fndF id (k + 1) (l.drop (k + 1)) := by
  rw [drop_at l k x h]
  conv => lhs; unfold fndF
  rw [if_neg hx]
theorem fndF_end {id : List UInt8} {k : Nat} {l : List St} (h : l.length ≤ k) : fndF id k (l.drop k) = -1 := by
  rw [List.drop_of_length_le h]
  rfl
theorem fndF_is : ∀ (l : List St) (id : List UInt8) (k : Nat), (fndF id k l = -1 ∧ id ∉ idsS l) ∨ ∃ (j : Nat) (x : St), l[j]? = some x ∧ x.1 = id ∧ fndF id k l = ((k + j : Nat) : Int) ∧ id ∉ idsS (l.take j)
  | [], _, _ => .inl ⟨rfl, by simp [idsS]⟩
  | y :: r, id, k => by
    by_cases hy : y.1 = id
    · refine .inr ⟨0, y, rfl, hy, ?_, by simp [idsS]⟩
      unfold fndF
      rw [if_pos hy]
      rfl
    · have e : fndF id k (y :: r) = fndF id (k + 1) r := by
        conv => lhs; unfold fndF
        rw [if_neg hy]
      have hy' : ¬ id = y.1 := fun h => hy h.symm
      rcases fndF_is r id (k + 1) with ⟨h1, h2⟩ | ⟨j, x, h1, h2, h3, h4⟩
      · refine .inl ⟨by rw [e, h1], ?_⟩
        simp only [idsS, List.map_cons, List.mem_cons, not_or]
        exact ⟨hy', h2⟩
      · refine .inr ⟨j + 1, x, h1, h2, ?_, ?_⟩
        · rw [e, h3]
          congr 1
          omega
        · rw [List.take_succ_cons]
          simp only [idsS, List.map_cons, List.mem_cons, not_or]
          exact ⟨hy', h4⟩
theorem fndT_is (l : List St) (id : List UInt8) : (fndT l id = -1 ∧ id ∉ idsS l) ∨ ∃ (j : Nat) (x : St), l[j]? = some x ∧ x.1 = id ∧ fndT l id = (j : Int) ∧ id ∉ idsS (l.take j) := by
  have := fndF_is l id 0
  simp only [Nat.zero_add] at this
  exact this
theorem fndT_range (l : List St) (id : List UInt8) : -1 ≤ fndT l id ∧ (fndT l id = -1 ∨ 0 ≤ fndT l id) ∧ fndT l id < (l.length : Int) := by
  rcases fndT_is l id with ⟨h, _⟩ | ⟨j, x, h1, _, h, _⟩
  · rw [h]; omega
  · have := (List.getElem?_eq_some_iff.1 h1).1
    rw [h]; omega
/-- A stop's identifier is found ahead of it exactly if an earlier stop has it. -/
theorem fndT_lt {l : List St} {i : Nat} {x : St} (h : l[i]? = some x) : fndT l x.1 < (i : Int) ↔ x.1 ∈ idsS (l.take i) := by
  rcases fndT_is l x.1 with ⟨_, h2⟩ | ⟨j, y, h1, h2, h3, h4⟩
  · exact absurd (ids_mem.2 ⟨i, x, h, rfl⟩) h2
  · rw [h3]
    constructor
    · intro hlt
      refine ids_mem.2 ⟨j, y, ?_, h2⟩
      rw [List.getElem?_take, if_pos (by omega)]
      exact h1
    · intro hm
      obtain ⟨k, z, hz, hzx⟩ := ids_mem.1 hm
      rw [List.getElem?_take] at hz
      split at hz
      · next hk =>
        rcases Nat.lt_or_ge j i with hj | hj
        · omega
        · refine absurd (ids_mem.2 ⟨k, z, ?_, hzx⟩) h4
          rw [List.getElem?_take, if_pos (by omega)]
          exact hz
      · cases hz
/-- In a good table every stop's identifier is found at its index. -/
theorem fndT_good {l : List St} (hg : (chkT l).2 = 0) {i : Nat} {x : St} (h : l[i]? = some x) : fndT l x.1 = (i : Int) := by
  have hb := (bad_zero (chkT_ok hg h)).2.1
  have h0 := fndT_lt h
  rcases fndT_is l x.1 with ⟨_, h2⟩ | ⟨j, y, h1, h2, h3, h4⟩
  · exact absurd (ids_mem.2 ⟨i, x, h, rfl⟩) h2
  · rw [h3]
    rw [h3] at h0
    rcases Nat.lt_trichotomy j i with hj | hj | hj
    · exact absurd (h0.1 (by omega)) hb
    · rw [hj]
    · refine absurd (ids_mem.2 ⟨i, x, ?_, rfl⟩) h4
      rw [List.getElem?_take, if_pos hj]
      exact h

/-! ### Zones -/
/-- The set with the zones of these stops. -/
def zonF (s : Nat) : List St → Nat
  | [] => s
  | x :: r => zonF (s ||| one x.2.1) r
def zonT (l : List St) : Nat := zonF 0 l
theorem zonF_next {l : List St} {k : Nat} {x : St} {s : Nat} (hr : zonT l = zonF s (l.drop k)) (h : l[k]? = some x) : zonT l = zonF (s ||| one x.2.1) (l.drop (k + 1)) := by
  rw [hr, drop_at l k x h]
  rfl
theorem zonF_done {l : List St} {k s : Nat} (hr : zonT l = zonF s (l.drop k)) (h : l.length ≤ k) : zonT l = s := by
  rw [hr, List.drop_of_length_le h]
  rfl
theorem zonF_lt : ∀ (l : List St) (s : Nat), W64 s → W64 (zonF s l)
  | [], _, h => h
  | _ :: r, _, h => zonF_lt r _ (or_lt h (one_lt _))
theorem zonT_lt (l : List St) : W64 (zonT l) := zonF_lt l 0 (by decide)
theorem zonF_bit : ∀ (l : List St) (s j : Nat), j < 64 → ((zonF s l).testBit j = true ↔ s.testBit j = true ∨ ∃ x ∈ l, x.2.1 = (j : Int))
  | [], s, j, _ => by simp [zonF]
  | y :: r, s, j, hj => by
    show (zonF (s ||| one y.2.1) r).testBit j = true ↔ _
    rw [zonF_bit r _ j hj, Nat.testBit_or, one_bit _ _ hj, Bool.or_eq_true, decide_eq_true_iff]
    constructor
    · rintro ((h | h) | ⟨x, hx, h⟩)
      · exact .inl h
      · exact .inr ⟨y, List.mem_cons_self, h⟩
      · exact .inr ⟨x, List.mem_cons_of_mem _ hx, h⟩
    · rintro (h | ⟨x, hx, h⟩)
      · exact .inl (.inl h)
      · rcases List.mem_cons.1 hx with rfl | hx
        · exact .inl (.inr h)
        · exact .inr ⟨x, hx, h⟩
theorem zonT_bit (l : List St) (j : Nat) (hj : j < 64) : (zonT l).testBit j = true ↔ ∃ x ∈ l, x.2.1 = (j : Int) := by
  unfold zonT
  rw [zonF_bit l 0 j hj]
  simp

/-! ### The stops of a zone -/
def inF (z : Int) (k : Nat) : List St → List Int
  | [] => []
  | x :: r => if x.2.1 = z then (k : Int) :: inF z (k + 1) r else inF z (k + 1) r
/-- The indices of the stops of a zone. -/
def inT (l : List St) (z : Int) : List Int := inF z 0 l
theorem inF_app (z : Int) : ∀ (l : List St) (k : Nat) (x : St), inF z k (l ++ [x]) = inF z k l ++ if x.2.1 = z then [((k + l.length : Nat) : Int)] else []
  | [], k, x => by
    show inF z k [x] = _
    unfold inF
    simp only [inF, List.length_nil, Nat.add_zero]
    split <;> rfl
  | y :: r, k, x => by
    rw [List.cons_append]
    unfold inF
    rw [inF_app z r (k + 1) x]
    have e : k + 1 + r.length = k + (y :: r).length := by rw [List.length_cons]; omega
    rw [e]
    split <;> simp
theorem inT_hit {l : List St} {k : Nat} {x : St} {z : Int} (h : l[k]? = some x) (hz : x.2.1 = z) : inT (l.take (k + 1)) z = inT (l.take k) z ++ [(k : Int)] := by
  unfold inT
  have hk := (List.getElem?_eq_some_iff.1 h).1
  rw [take_at l k x h, inF_app, if_pos hz, List.length_take, Nat.min_eq_left (by omega), Nat.zero_add]
theorem inT_miss {l : List St} {k : Nat} {x : St} {z : Int} (h : l[k]? = some x) (hz : x.2.1 ≠ z) : inT (l.take (k + 1)) z = inT (l.take k) z := by
  unfold inT
  rw [take_at l k x h, inF_app, if_neg hz, List.append_nil]
theorem inF_le (z : Int) : ∀ (l : List St) (k : Nat), (inF z k l).length ≤ l.length
  | [], _ => Nat.le_refl _
  | y :: r, k => by
    have := inF_le z r (k + 1)
    unfold inF
    split <;> simp only [List.length_cons] <;> omega
theorem inT_le (l : List St) (z : Int) : (inT l z).length ≤ l.length := inF_le z l 0
theorem inF_mem (z : Int) : ∀ (l : List St) (k : Nat) (i : Int), i ∈ inF z k l ↔ ∃ (j : Nat) (x : St), l[j]? = some x ∧ x.2.1 = z ∧ i = ((k + j : Nat) : Int)
  | [], k, i => by simp [inF]
  | y :: r, k, i => by
    have ih := inF_mem z r (k + 1) i
    have step : i ∈ inF z (k + 1) r ↔ ∃ (j : Nat) (x : St), (y :: r)[j + 1]? = some x ∧ x.2.1 = z ∧ i = ((k + (j + 1) : Nat) : Int) := by
      rw [ih]
      constructor
      · rintro ⟨j, x, h1, h2, h3⟩
        exact ⟨j, x, h1, h2, by rw [h3]; congr 1; omega⟩
      · rintro ⟨j, x, h1, h2, h3⟩
        exact ⟨j, x, h1, h2, by rw [h3]; congr 1; omega⟩
    unfold inF
    constructor
    · intro h
      split at h
      · next hz =>
        rcases List.mem_cons.1 h with rfl | h
        · exact ⟨0, y, rfl, hz, rfl⟩
        · obtain ⟨j, x, h1, h2, h3⟩ := step.1 h
          exact ⟨j + 1, x, h1, h2, h3⟩
      · obtain ⟨j, x, h1, h2, h3⟩ := step.1 h
        exact ⟨j + 1, x, h1, h2, h3⟩
    · rintro ⟨j, x, h1, h2, h3⟩
      cases j with
      | zero =>
        simp at h1
        subst h1
        rw [if_pos h2]
        exact List.mem_cons.2 (.inl h3)
      | succ j =>
        have := step.2 ⟨j, x, h1, h2, h3⟩
        split
        · exact List.mem_cons_of_mem _ this
        · exact this
theorem inT_mem {l : List St} {z i : Int} (h : i ∈ inT l z) : ∃ (j : Nat) (x : St), l[j]? = some x ∧ x.2.1 = z ∧ i = (j : Int) := by
  obtain ⟨j, x, h1, h2, h3⟩ := (inF_mem z l 0 i).1 h
  exact ⟨j, x, h1, h2, by rw [h3, Nat.zero_add]⟩
theorem inF_rise (z : Int) : ∀ (l : List St) (k : Nat), (inF z k l).Pairwise (· < ·)
  | [], _ => List.Pairwise.nil
  | y :: r, k => by
    unfold inF
    split
    · rw [List.pairwise_cons]
      refine ⟨fun i hi => ?_, inF_rise z r (k + 1)⟩
      obtain ⟨j, x, _, _, h3⟩ := (inF_mem z r (k + 1) i).1 hi
      omega
    · exact inF_rise z r (k + 1)
theorem inT_rise {l : List St} {z : Int} {k : Nat} {i j : Int} (h1 : (inT l z)[k]? = some i) (h2 : (inT l z)[k + 1]? = some j) : i < j := by
  have h := inF_rise z l 0
  obtain ⟨a1, e1⟩ := List.getElem?_eq_some_iff.1 h1
  obtain ⟨a2, e2⟩ := List.getElem?_eq_some_iff.1 h2
  rw [← e1, ← e2]
  exact List.pairwise_iff_getElem.1 h k (k + 1) a1 a2 (Nat.lt_succ_self _)
theorem inT_some (l : List St) (z : Nat) (hz : z < 64) : decide (0 < (inT l (z : Int)).length) = (zonT l).testBit z := by
  rw [Bool.eq_iff_iff, decide_eq_true_iff, zonT_bit l z hz]
  constructor
  · intro h
    obtain ⟨i, hi⟩ := at_lt h
    obtain ⟨j, x, h1, h2, _⟩ := inT_mem (List.mem_iff_getElem?.2 ⟨0, hi⟩)
    exact ⟨x, List.mem_iff_getElem?.2 ⟨j, h1⟩, h2⟩
  · rintro ⟨x, hx, h⟩
    obtain ⟨j, hj⟩ := List.mem_iff_getElem?.1 hx
    exact List.length_pos_of_mem ((inF_mem z l 0 ((0 + j : Nat) : Int)).2 ⟨j, x, hj, h, rfl⟩)
/-- How many stops the zones below a bound have. -/
def sumZ (l : List St) : Nat → Nat
  | 0 => 0
  | n + 1 => sumZ l n + (inT l (n : Int)).length
theorem inF_cons_len (z : Int) (y : St) (r : List St) (k : Nat) : (inF z k (y :: r)).length = (inF z (k + 1) r).length + if y.2.1 = z then 1 else 0 := by
  conv => lhs; unfold inF
  split <;> simp
theorem inF_len_any (z : Int) : ∀ (l : List St) (k j : Nat), (inF z k l).length = (inF z j l).length
  | [], _, _ => rfl
  | y :: r, k, j => by rw [inF_cons_len, inF_cons_len, inF_len_any z r (k + 1) (j + 1)]
theorem sumZ_cons (y : St) (r : List St) : ∀ n, sumZ (y :: r) n = sumZ r n + if 0 ≤ y.2.1 ∧ y.2.1 < (n : Int) then 1 else 0
  | 0 => by
    show 0 = 0 + _
    rw [if_neg (by omega)]
  | n + 1 => by
    show sumZ (y :: r) n + (inT (y :: r) (n : Int)).length = sumZ r n + (inT r (n : Int)).length + _
    rw [sumZ_cons y r n]
    unfold inT
    rw [inF_cons_len, inF_len_any _ r (0 + 1) 0]
    by_cases h : y.2.1 = (n : Int)
    · rw [if_pos h, if_neg (by omega), if_pos (by omega)]
      omega
    · rw [if_neg h]
      by_cases h2 : 0 ≤ y.2.1 ∧ y.2.1 < (n : Int)
      · rw [if_pos h2, if_pos (by omega)]
        omega
      · rw [if_neg h2, if_neg (by omega)]
        omega
theorem sumZ_all (n : Nat) : ∀ l : List St, (∀ x ∈ l, 0 ≤ x.2.1 ∧ x.2.1 < (n : Int)) → sumZ l n = l.length
  | [], _ => by
    have h : ∀ m, sumZ [] m = 0 := fun m => by
      induction m with
      | zero => rfl
      | succ m ih =>
        show sumZ [] m + _ = 0
        rw [ih]
        rfl
    exact h n
  | y :: r, h => by
    rw [sumZ_cons, sumZ_all n r (fun x hx => h x (List.mem_cons_of_mem _ hx)), if_pos (h y List.mem_cons_self)]
    rfl
theorem sumZ_le (l : List St) : ∀ n, sumZ l n ≤ n * l.length
  | 0 => Nat.zero_le _
  | n + 1 => by
    have h1 := sumZ_le l n
    have h2 := inT_le l (n : Int)
    show sumZ l n + _ ≤ _
    rw [Nat.add_mul]
    omega
/-- The zones of a good table are from 0 to 15. -/
theorem zone_good {l : List St} (hg : (chkT l).2 = 0) : ∀ x ∈ l, 0 ≤ x.2.1 ∧ x.2.1 < ((16 : Nat) : Int) := by
  intro x hx
  obtain ⟨j, hj⟩ := List.mem_iff_getElem?.1 hx
  have := (bad_zero (chkT_ok hg hj)).2.2
  unfold farS at this
  omega
theorem zone_sum {l : List St} (hg : (chkT l).2 = 0) : sumZ l 16 = l.length := sumZ_all 16 l (zone_good hg)
theorem zone_low {l : List St} (hg : (chkT l).2 = 0) : zonT l < 65536 := by
  have : zonT l < 2 ^ 16 := by
    refine Nat.lt_pow_two_of_testBit _ fun j hj => ?_
    rcases Nat.lt_or_ge j 64 with h | h
    · cases hb : (zonT l).testBit j with
      | false => rfl
      | true =>
        obtain ⟨x, hx, he⟩ := (zonT_bit l j h).1 hb
        have := zone_good hg x hx
        omega
    · exact Nat.testBit_lt_two_pow (Nat.lt_of_lt_of_le (show zonT l < 2 ^ 64 from zonT_lt l) (Nat.pow_le_pow_right (by decide) h))
  exact this

/-! ### The step-free stops -/
def freF (s k : Nat) : List St → Nat
  | [] => s
  | x :: r => freF (if x.2.2.1 = true then s ||| one (k : Int) else s) (k + 1) r
/-- The set of the step-free stops. -/
def freT (l : List St) : Nat := freF 0 0 l
theorem one_far {k : Nat} (h : 64 ≤ k) : one (k : Int) = 0 := by unfold one; rw [if_neg (by omega)]
theorem one_near {k : Nat} (h : k < 64) : one (k : Int) = 2 ^ k := by unfold one; rw [if_pos (by omega), Int.toNat_natCast]
theorem freF_yes {l : List St} {k s : Nat} {x : St} (hr : freT l = freF s k (l.drop k)) (h : l[k]? = some x) (hx : x.2.2.1 = true) : freT l = freF (s ||| one (k : Int)) (k + 1) (l.drop (k + 1)) := by
  rw [hr, drop_at l k x h]
  conv => lhs; unfold freF
  rw [if_pos hx]
theorem freF_no {l : List St} {k s : Nat} {x : St} (hr : freT l = freF s k (l.drop k)) (h : l[k]? = some x) (hx : x.2.2.1 = false) : freT l = freF s (k + 1) (l.drop (k + 1)) := by
  rw [hr, drop_at l k x h]
  conv => lhs; unfold freF
  rw [if_neg (by rw [hx]; simp)]
theorem freF_done {l : List St} {k s : Nat} (hr : freT l = freF s k (l.drop k)) (h : l.length ≤ k) : freT l = s := by
  rw [hr, List.drop_of_length_le h]
  rfl
theorem freF_far : ∀ (l : List St) (s k : Nat), 64 ≤ k → freF s k l = s
  | [], _, _, _ => rfl
  | x :: r, s, k, h => by
    unfold freF
    rw [one_far h, Nat.or_zero, ite_self]
    exact freF_far r s (k + 1) (by omega)

/-! ### Small tables -/
def smallB (l : List St) : Bool := decide (l.length ≤ 200) && l.all fun x => decide (x.1.length ≤ 256)
theorem small_len {l : List St} (h : smallB l = true) : l.length ≤ 200 := by
  unfold smallB at h
  rw [Bool.and_eq_true, decide_eq_true_iff] at h
  exact h.1
theorem small_at {l : List St} (h : smallB l = true) {k : Nat} {x : St} (hx : l[k]? = some x) : x.1.length ≤ 256 := by
  unfold smallB at h
  rw [Bool.and_eq_true, List.all_eq_true] at h
  exact of_decide_eq_true (h.2 x (List.mem_iff_getElem?.2 ⟨k, hx⟩))
theorem small_many {l : List St} (h : 200 < l.length) : smallB l = false := by
  unfold smallB
  rw [decide_eq_false (by omega), Bool.false_and]
theorem small_long {l : List St} {k : Nat} {x : St} (hx : l[k]? = some x) (h : 256 < x.1.length) : smallB l = false := by
  unfold smallB
  rw [Bool.and_eq_false_iff]
  refine .inr ?_
  rw [List.all_eq_false]
  exact ⟨x, List.mem_iff_getElem?.2 ⟨k, hx⟩, by simp; omega⟩
theorem small_of {l : List St} (h : l.length ≤ 200) (h2 : ∀ (j : Nat) x, l[j]? = some x → x.1.length ≤ 256) : smallB l = true := by
  unfold smallB
  rw [Bool.and_eq_true, decide_eq_true_iff, List.all_eq_true]
  refine ⟨h, fun x hx => ?_⟩
  obtain ⟨j, hj⟩ := List.mem_iff_getElem?.1 hx
  exact decide_eq_true (h2 j x hj)
end Go.Proofs.Ytgjohpbhdgmifaa
