/-
  Plain facts about fare products: the first bad one, the zones and the modes of rides, which rides a product covers, prices, the cheapest product: no program. Condition: none beyond each theorem's own hypotheses.
-/
import Derived.Test.YtkpmmojfnhfflaaRte
namespace Go.Proofs.Ytkpmmojfnhfflaa
open Go

/-- A product: its identifier, price, rides, zones, seconds, modes. -/
abbrev Pd := List UInt8 × Int × Int × Int × Int × Int
/-- A ride: when it departs and arrives, its zones, its modes. -/
abbrev Ri := Int × Int × Int × Int
/-- The numbers of a product are right. -/
def okPd (p : Pd) : Prop := (0 ≤ p.2.1 ∧ p.2.1 ≤ 1000000) ∧ (1 ≤ p.2.2.1 ∧ p.2.2.1 ≤ 8) ∧ (1 ≤ p.2.2.2.1 ∧ p.2.2.2.1 ≤ 16) ∧ (0 ≤ p.2.2.2.2.1 ∧ p.2.2.2.2.1 ≤ 86400) ∧ 1 ≤ p.2.2.2.2.2 ∧ p.2.2.2.2.2 ≤ 255
instance (p : Pd) : Decidable (okPd p) := by unfold okPd; infer_instance
/-- The error of one product behind products with these identifiers. -/
def badPd (seen : List (List UInt8)) (x : Pd) : Int := if validB x.1 = false then 12 else if x.1 ∈ seen then 6 else if okPd x then 0 else 2
theorem badPd_name {seen : List (List UInt8)} {x : Pd} (h : validB x.1 = false) : badPd seen x = 12 := by unfold badPd; rw [if_pos h]
theorem badPd_twice {seen : List (List UInt8)} {x : Pd} (h : validB x.1 = true) (h2 : x.1 ∈ seen) : badPd seen x = 6 := by unfold badPd; rw [if_neg (by rw [h]; simp), if_pos h2]
theorem badPd_range {seen : List (List UInt8)} {x : Pd} (h : validB x.1 = true) (h2 : x.1 ∉ seen) (h3 : ¬ okPd x) : badPd seen x = 2 := by unfold badPd; rw [if_neg (by rw [h]; simp), if_neg h2, if_neg h3]
theorem badPd_none {seen : List (List UInt8)} {x : Pd} (h : validB x.1 = true) (h2 : x.1 ∉ seen) (h3 : okPd x) : badPd seen x = 0 := by unfold badPd; rw [if_neg (by rw [h]; simp), if_neg h2, if_pos h3]
def idPd (x : Pd) : List UInt8 := x.1
/-- The fares' own numbers are right: discount, seconds within, cap. -/
def okFa (d wi c : Int) : Prop := (0 ≤ d ∧ d ≤ 1000000) ∧ (0 ≤ wi ∧ wi ≤ 86400) ∧ 0 ≤ c ∧ c ≤ 1000000
instance (d wi c : Int) : Decidable (okFa d wi c) := by unfold okFa; infer_instance
/-- What Check answers. -/
def chkPd (d wi c : Int) (l : List Pd) : Int × Int := if ¬ okFa d wi c then (-1, 2) else if 16 < l.length then (0, 5) else fbF badPd idPd [] 0 l
theorem chkPd_range {d wi c : Int} {l : List Pd} (h : ¬ okFa d wi c) : chkPd d wi c l = (-1, 2) := by unfold chkPd; rw [if_pos h]
theorem chkPd_many {d wi c : Int} {l : List Pd} (h : okFa d wi c) (h2 : 16 < l.length) : chkPd d wi c l = (0, 5) := by unfold chkPd; rw [if_neg (fun k => k h), if_pos h2]
theorem chkPd_start {d wi c : Int} {l : List Pd} (h : okFa d wi c) (h2 : l.length ≤ 16) : chkPd d wi c l = fbF badPd idPd ((l.take 0).map idPd) 0 (l.drop 0) := by unfold chkPd; rw [if_neg (fun k => k h), if_neg (by omega)]; rfl

/-! ### The zones and the modes of rides -/
/-- The union of the words of a property of the rides. -/
def uniW (f : Ri → Int) (l : List Ri) : Nat := l.foldl (fun s r => s ||| wordR (f r)) 0
section
variable {f : Ri → Int}
theorem uni_next {l : List Ri} {k : Nat} {x : Ri} (h : l[k]? = some x) : uniW f (l.take (k + 1)) = uniW f (l.take k) ||| wordR (f x) := by
  unfold uniW
  rw [take_at l k x h, List.foldl_append]
  rfl
theorem uni_fold : ∀ (l : List Ri) (s j : Nat), (l.foldl (fun s r => s ||| wordR (f r)) s).testBit j = true ↔ s.testBit j = true ∨ ∃ r ∈ l, (wordR (f r)).testBit j = true
  | [], s, j => by simp
  | x :: r, s, j => by
    rw [List.foldl_cons, uni_fold r, Nat.testBit_or, Bool.or_eq_true]
    constructor
    · rintro ((h | h) | ⟨y, hy, h⟩)
      · exact .inl h
      · exact .inr ⟨x, List.mem_cons_self, h⟩
      · exact .inr ⟨y, List.mem_cons_of_mem _ hy, h⟩
    · rintro (h | ⟨y, hy, h⟩)
      · exact .inl (.inl h)
      · rcases List.mem_cons.1 hy with rfl | hy
        · exact .inl (.inr h)
        · exact .inr ⟨y, hy, h⟩
theorem uni_bit {l : List Ri} {j : Nat} : (uniW f l).testBit j = true ↔ ∃ r ∈ l, (wordR (f r)).testBit j = true := by
  unfold uniW
  rw [uni_fold]
  simp
theorem uni_sub {a b : List Ri} (h : ∀ r ∈ a, r ∈ b) (j : Nat) (hj : (uniW f a).testBit j = true) : (uniW f b).testBit j = true := by
  obtain ⟨r, hr, h1⟩ := uni_bit.1 hj
  exact uni_bit.2 ⟨r, h r hr, h1⟩
end
theorem filter_len {α : Type} {p q : α → Bool} (h : ∀ x, p x = true → q x = true) : ∀ l : List α, (l.filter p).length ≤ (l.filter q).length
  | [] => Nat.le_refl _
  | x :: r => by
    have := filter_len h r
    cases hp : p x with
    | true => rw [List.filter_cons_of_pos hp, List.filter_cons_of_pos (h x hp), List.length_cons, List.length_cons]; omega
    | false =>
      rw [List.filter_cons_of_neg (by rw [hp]; simp)]
      cases hq : q x with
      | true => rw [List.filter_cons_of_pos hq, List.length_cons]; omega
      | false => rw [List.filter_cons_of_neg (by rw [hq]; simp)]; exact this
theorem elems_sub {s t : Nat} (h : ∀ j, s.testBit j = true → t.testBit j = true) : (elems s).length ≤ (elems t).length := filter_len h _
/-- All elements of a word are in another one. -/
def subW (s t : Nat) : Bool := (elems s).all fun j => t.testBit j
theorem subW_iff {s t : Nat} : subW s t = true ↔ ∀ j, j < 64 → s.testBit j = true → t.testBit j = true := by
  unfold subW
  rw [List.all_eq_true]
  exact ⟨fun h j hj hs => h j ((mem_elems s j).2 ⟨hj, hs⟩), fun h j hj => h j ((mem_elems s j).1 hj).1 ((mem_elems s j).1 hj).2⟩

/-! ### What a product covers -/
/-- When the first, the last ride departs. -/
def fstD (l : List Ri) : Int := (l.head?.map fun r => r.1).getD 0
def lstD (l : List Ri) : Int := (l.getLast?.map fun r => r.1).getD 0
def znR (r : Ri) : Int := r.2.2.1
def mdR (r : Ri) : Int := r.2.2.2
/-- A product covers rides. -/
def covPd (p : Pd) (l : List Ri) : Bool :=
  decide (1 ≤ l.length ∧ (l.length : Int) ≤ p.2.2.1) && (decide (((elems (uniW znR l)).length : Int) ≤ p.2.2.2.1) && (subW (uniW mdR l) (wordR p.2.2.2.2.2) && decide (lstD l - fstD l ≤ p.2.2.2.2.1)))
theorem cov_iff {p : Pd} {l : List Ri} : covPd p l = true ↔ (1 ≤ l.length ∧ (l.length : Int) ≤ p.2.2.1) ∧ ((elems (uniW znR l)).length : Int) ≤ p.2.2.2.1 ∧ subW (uniW mdR l) (wordR p.2.2.2.2.2) = true ∧ lstD l - fstD l ≤ p.2.2.2.2.1 := by
  unfold covPd
  rw [Bool.and_eq_true, Bool.and_eq_true, Bool.and_eq_true, decide_eq_true_iff, decide_eq_true_iff, decide_eq_true_iff]
theorem fst_at {l : List Ri} {x : Ri} (h : l[0]? = some x) : fstD l = x.1 := by
  unfold fstD
  rw [List.head?_eq_getElem?, h]
  rfl
theorem lst_at {l : List Ri} {x : Ri} (h : l[l.length - 1]? = some x) : lstD l = x.1 := by
  unfold lstD
  rw [List.getLast?_eq_getElem?, h]
  rfl
/-- A product covers each part of rides that it covers and that depart in order of time; so does one that allows more. -/
theorem cov_part {p q : Pd} {l : List Ri} {i k : Nat} (h : covPd p l = true) (hs : ∀ (a b : Nat) x y, a ≤ b → l[a]? = some x → l[b]? = some y → x.1 ≤ y.1) (hik : i < k) (hk : k ≤ l.length)
    (h1 : p.2.2.1 ≤ q.2.2.1) (h2 : p.2.2.2.1 ≤ q.2.2.2.1) (h3 : p.2.2.2.2.1 ≤ q.2.2.2.2.1) (h4 : p.2.2.2.2.2 = q.2.2.2.2.2) : covPd q ((l.drop i).take (k - i)) = true := by
  obtain ⟨⟨c1, c2⟩, c3, c4, c5⟩ := cov_iff.1 h
  have hlen : ((l.drop i).take (k - i)).length = k - i := by rw [List.length_take, List.length_drop]; omega
  have hmem : ∀ r ∈ (l.drop i).take (k - i), r ∈ l := fun r hr => List.mem_of_mem_drop (List.mem_of_mem_take hr)
  have hat : ∀ j, j < k - i → ((l.drop i).take (k - i))[j]? = l[i + j]? := by
    intro j hj
    rw [List.getElem?_take_of_lt hj, List.getElem?_drop]
  obtain ⟨x0, e0⟩ := at_lt (show 0 < l.length by omega)
  obtain ⟨xi, ei⟩ := at_lt (show i < l.length by omega)
  obtain ⟨xk, ek⟩ := at_lt (show k - 1 < l.length by omega)
  obtain ⟨xn, en⟩ := at_lt (show l.length - 1 < l.length by omega)
  have f1 := fst_at e0
  have f2 := lst_at en
  have f3 : fstD ((l.drop i).take (k - i)) = xi.1 := fst_at (by rw [hat 0 (by omega)]; exact ei)
  have f4 : lstD ((l.drop i).take (k - i)) = xk.1 := lst_at (by rw [hlen, hat _ (by omega), show i + (k - i - 1) = k - 1 by omega]; exact ek)
  have o1 := hs 0 i x0 xi (by omega) e0 ei
  have o2 := hs (k - 1) (l.length - 1) xk xn (by omega) ek en
  have z := elems_sub (fun j => uni_sub (f := znR) hmem j)
  refine cov_iff.2 ⟨⟨by omega, by omega⟩, by omega, ?_, by omega⟩
  rw [← h4]
  exact subW_iff.2 fun j hj hb => subW_iff.1 c4 j hj (uni_sub hmem j hb)
/-- The indices of the products that cover rides. -/
def optPd (l : List Pd) (rs : List Ri) : List Int := ixs (fun p => covPd p rs) l

/-! ### Prices -/
/-- The price of a ticket. -/
def prcP (d wi : Int) (pr : Int) (first : Bool) (w : Int) : Int := if first = true ∨ wi < w then pr else if pr < d then 0 else pr - d
theorem prc_first (d wi pr w : Int) : prcP d wi pr true w = pr := by unfold prcP; rw [if_pos (.inl rfl)]
theorem prc_up {d wi pr v w : Int} (h : v ≤ w) (hd : 0 ≤ d) (hp : 0 ≤ pr) : prcP d wi pr false v ≤ prcP d wi pr false w := by
  unfold prcP
  simp only [Bool.false_eq_true, false_or]
  split <;> split <;> (try split) <;> (try split) <;> omega
theorem prc_all {d wi pr w : Int} (hd : 0 ≤ d) (hp : 0 ≤ pr) : 0 ≤ prcP d wi pr false w ∧ prcP d wi pr false w ≤ pr ∧ pr - prcP d wi pr false w ≤ d := by
  unfold prcP
  simp only [Bool.false_eq_true, false_or]
  split <;> (try split) <;> omega

/-! ### The cheapest product -/
/-- The cheapest so far (its index and its price) behind one product more, number k. -/
def chS (c : Pd → Bool) (q : Option (Nat × Int)) (k : Nat) (x : Pd) : Option (Nat × Int) :=
  if c x then (match q with | none => some (k, x.2.1) | some (j, m) => if x.2.1 < m then some (k, x.2.1) else some (j, m)) else q
def chF (c : Pd → Bool) (k : Nat) (q : Option (Nat × Int)) : List Pd → Option (Nat × Int)
  | [] => q
  | x :: r => chF c (k + 1) (chS c q k x) r
/-- The cheapest one with a property, the first of several. -/
def chP (c : Pd → Bool) (l : List Pd) : Option (Nat × Int) := chF c 0 none l
section
variable {c : Pd → Bool} {q : Option (Nat × Int)} {k : Nat} {x : Pd} {l : List Pd}
theorem ch_start : chP c l = chF c 0 none (l.drop 0) := rfl
theorem ch_next (h : l[k]? = some x) : chF c k q (l.drop k) = chF c (k + 1) (chS c q k x) (l.drop (k + 1)) := by
  rw [drop_at l k x h]
  rfl
theorem ch_end (h : l.length ≤ k) : chF c k q (l.drop k) = q := by
  rw [List.drop_of_length_le h]
  rfl
theorem chS_no (h : c x = false) : chS c q k x = q := by unfold chS; rw [if_neg (by rw [h]; simp)]
theorem chS_first (h : c x = true) : chS c none k x = some (k, x.2.1) := by unfold chS; rw [if_pos h]
theorem chS_less {j : Nat} {m : Int} (h : c x = true) (hm : x.2.1 < m) : chS c (some (j, m)) k x = some (k, x.2.1) := by
  unfold chS
  rw [if_pos h]
  exact if_pos hm
theorem chS_more {j : Nat} {m : Int} (h : c x = true) (hm : ¬ x.2.1 < m) : chS c (some (j, m)) k x = some (j, m) := by
  unfold chS
  rw [if_pos h]
  exact if_neg hm
/-- What is kept is a product with the property, at its index, with its price, and none before it is cheaper. -/
theorem ch_spec : ∀ k, k ≤ l.length → (chF c 0 none (l.take k) = none ∧ ∀ y ∈ l.take k, c y = false) ∨ ∃ j y, j < k ∧ l[j]? = some y ∧ c y = true ∧ chF c 0 none (l.take k) = some (j, y.2.1) ∧ (∀ i z, i < k → l[i]? = some z → c z = true → y.2.1 ≤ z.2.1) ∧ ∀ i z, i < j → l[i]? = some z → c z = true → y.2.1 < z.2.1 := by
  have app : ∀ (a : List Pd) (n : Nat) (q : Option (Nat × Int)) (x : Pd), chF c n q (a ++ [x]) = chS c (chF c n q a) (n + a.length) x := by
    intro a
    induction a with
    | nil => intro n q x; rfl
    | cons y r ih =>
      intro n q x
      show chF c (n + 1) (chS c q n y) (r ++ [x]) = _
      rw [ih, List.length_cons, show n + 1 + r.length = n + (r.length + 1) by omega]
      rfl
  intro k
  induction k with
  | zero => intro _; exact .inl ⟨rfl, fun y hy => by simp at hy⟩
  | succ k ih =>
    intro hk
    obtain ⟨x, hx⟩ := at_lt (show k < l.length by omega)
    have e : chF c 0 none (l.take (k + 1)) = chS c (chF c 0 none (l.take k)) k x := by
      rw [take_at l k x hx, app, List.length_take, Nat.min_eq_left (by omega), Nat.zero_add]
    rw [e]
    rcases ih (by omega) with ⟨h1, h2⟩ | ⟨j, y, h1, h2, h3, h4, h5, h6⟩
    · rw [h1]
      cases hc : c x with
      | false =>
        refine .inl ⟨chS_no hc, fun y hy => ?_⟩
        rw [take_at l k x hx] at hy
        rcases List.mem_append.1 hy with hy | hy
        · exact h2 y hy
        · rw [List.mem_singleton.1 hy]; exact hc
      | true =>
        have none : ∀ i z, i < k → l[i]? = some z → c z = true → False := by
          intro i z hi hz hcz
          have := h2 z (List.mem_iff_getElem?.2 ⟨i, by rw [List.getElem?_take_of_lt hi]; exact hz⟩)
          rw [this] at hcz
          cases hcz
        refine .inr ⟨k, x, by omega, hx, hc, chS_first hc, fun i z hi hz hcz => ?_, fun i z hi hz hcz => absurd (none i z hi hz hcz) (fun h => h)⟩
        by_cases e : i = k
        · subst e
          rw [hx] at hz
          cases hz
          exact Int.le_refl _
        · exact absurd (none i z (by omega) hz hcz) (fun h => h)
    · rw [h4]
      cases hc : c x with
      | false =>
        refine .inr ⟨j, y, by omega, h2, h3, chS_no hc, fun i z hi hz hcz => ?_, h6⟩
        by_cases e : i = k
        · subst e
          rw [hx] at hz
          cases hz
          rw [hc] at hcz
          cases hcz
        · exact h5 i z (by omega) hz hcz
      | true =>
        by_cases hm : x.2.1 < y.2.1
        · refine .inr ⟨k, x, by omega, hx, hc, chS_less hc hm, fun i z hi hz hcz => ?_, fun i z hi hz hcz => ?_⟩
          · by_cases e : i = k
            · subst e
              rw [hx] at hz
              cases hz
              exact Int.le_refl _
            · have := h5 i z (by omega) hz hcz
              omega
          · have := h5 i z (by omega) hz hcz
            omega
        · refine .inr ⟨j, y, by omega, h2, h3, chS_more hc hm, fun i z hi hz hcz => ?_, h6⟩
          by_cases e : i = k
          · subst e
            rw [hx] at hz
            cases hz
            omega
          · exact h5 i z (by omega) hz hcz
end
end Go.Proofs.Ytkpmmojfnhfflaa
