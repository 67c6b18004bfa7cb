/-
  Plain facts about fare products: what follows for accepted fares, the price of a ticket, the cheapest product as a search among the options finds it: no program. Condition: none beyond each theorem's own hypotheses.
-/
import Derived.Test.YtkpmmojfnhfflaaPdt
import Derived.Test.YtkpmmojfnhfflaaIxn
namespace Go.Proofs.Ytkpmmojfnhfflaa
open Go

theorem acc_own {d wi c : Int} {l : List Pd} (h : (chkPd d wi c l).2 = 0) : okFa d wi c := by
  by_cases ok : okFa d wi c
  · exact ok
  · rw [chkPd_range ok] at h; cases h
theorem acc_len {d wi c : Int} {l : List Pd} (h : (chkPd d wi c l).2 = 0) : l.length ≤ 16 := by
  have ok := acc_own h
  rcases Nat.lt_or_ge 16 l.length with h2 | h2
  · rw [chkPd_many ok h2] at h; cases h
  · exact h2
theorem bad_ok {seen : List (List UInt8)} {x : Pd} (h : badPd seen x = 0) : okPd x := by
  unfold badPd at h
  split at h
  · cases h
  · split at h
    · cases h
    · split at h
      · assumption
      · cases h
theorem acc_at {d wi c : Int} {l : List Pd} (h : (chkPd d wi c l).2 = 0) {j : Nat} {x : Pd} (hx : l[j]? = some x) : okPd x := by
  rw [chkPd_start (acc_own h) (acc_len h)] at h
  exact bad_ok (fb_good (l.drop 0) l 0 rfl h j x (Nat.zero_le _) hx)

/-! ### The price of a ticket -/
/-- What Price answers. -/
def prA (d wi c : Int) (l : List Pd) (i : Int) (first : Bool) (w : Int) : Int × Bool :=
  if (chkPd d wi c l).2 = 0 ∧ 0 ≤ i then (match l[i.toNat]? with | some x => (prcP d wi x.2.1 first w, true) | none => (0, false)) else (0, false)
section
variable {d wi c : Int} {l : List Pd} {i : Int} {first : Bool} {w : Int}
theorem prA_bad (h : (chkPd d wi c l).2 ≠ 0) : prA d wi c l i first w = (0, false) := by unfold prA; rw [if_neg (fun k => h k.1)]
theorem prA_neg (h : i < 0) : prA d wi c l i first w = (0, false) := by unfold prA; rw [if_neg (fun k => by omega)]
theorem prA_far (h : (l.length : Int) ≤ i) : prA d wi c l i first w = (0, false) := by
  unfold prA
  split
  · rw [List.getElem?_eq_none (by omega)]
  · rfl
theorem prA_at {j : Nat} {x : Pd} (h : (chkPd d wi c l).2 = 0) (hx : l[j]? = some x) : prA d wi c l (j : Int) first w = (prcP d wi x.2.1 first w, true) := by
  unfold prA
  rw [if_pos ⟨h, by omega⟩, Int.toNat_natCast, hx]
end
theorem prc_full {d wi pr w : Int} {first : Bool} (h : first = true ∨ wi < w) : prcP d wi pr first w = pr := by unfold prcP; rw [if_pos h]
theorem prc_less {d wi pr w : Int} (h : ¬ wi < w) (h2 : pr < d) : prcP d wi pr false w = 0 := by unfold prcP; rw [if_neg (by simpa using h), if_pos h2]
theorem prc_cut {d wi pr w : Int} (h : ¬ wi < w) (h2 : ¬ pr < d) : prcP d wi pr false w = pr - d := by unfold prcP; rw [if_neg (by simpa using h), if_neg h2]
theorem prc_max {d wi pr w : Int} (h : ¬ wi < w) : prcP d wi pr false w = max (pr - d) 0 := by
  by_cases h2 : pr < d
  · rw [prc_less h h2]; omega
  · rw [prc_cut h h2]; omega

/-! ### The cheapest product -/
/-- What Cheapest answers. -/
def chA (d wi c : Int) (l : List Pd) (rs : List Ri) : Int × Int × Bool :=
  if (chkPd d wi c l).2 = 0 then (match chP (fun p => covPd p rs) l with | some (j, m) => ((j : Int), m, true) | none => (0, 0, false)) else (0, 0, false)
/-- The three variables of a search. -/
def chI (q : Option (Nat × Int)) : Int := match q with | some (j, _) => (j : Int) | none => 0
def chM (q : Option (Nat × Int)) : Int := match q with | some (_, m) => m | none => 0
def chB (q : Option (Nat × Int)) : Bool := match q with | some _ => true | none => false
section
variable {d wi c : Int} {l : List Pd} {rs : List Ri}
theorem chA_bad (h : (chkPd d wi c l).2 ≠ 0) : chA d wi c l rs = (0, 0, false) := by unfold chA; rw [if_neg h]
theorem chA_of (h : (chkPd d wi c l).2 = 0) : chA d wi c l rs = (chI (chP (fun p => covPd p rs) l), chM (chP (fun p => covPd p rs) l), chB (chP (fun p => covPd p rs) l)) := by
  unfold chA
  rw [if_pos h]
  cases chP (fun p => covPd p rs) l with
  | none => rfl
  | some q => rfl
/-- Of the first i of these indices, b is the first one with the smallest price. -/
def MinO (l : List Pd) (os : List Int) (i b : Nat) : Prop :=
  ∃ s x, s < max i 1 ∧ os[s]? = some (b : Int) ∧ l[b]? = some x ∧ (∀ (t : Nat) (z : Nat) y, t < i → os[t]? = some (z : Int) → l[z]? = some y → x.2.1 ≤ y.2.1) ∧ ∀ (t : Nat) (z : Nat) y, t < s → os[t]? = some (z : Int) → l[z]? = some y → x.2.1 < y.2.1
theorem min_start {os : List Int} {b : Nat} {x : Pd} (h : os[0]? = some (b : Int)) (hx : l[b]? = some x) : MinO l os 0 b :=
  ⟨0, x, by omega, h, hx, fun t _ _ ht => absurd ht (Nat.not_lt_zero _), fun t _ _ ht => absurd ht (Nat.not_lt_zero _)⟩
theorem min_less {os : List Int} {i b z : Nat} {x y : Pd} (h : MinO l os i b) (hz : os[i]? = some (z : Int)) (hx : l[b]? = some x) (hy : l[z]? = some y) (hlt : y.2.1 < x.2.1) : MinO l os (i + 1) z := by
  obtain ⟨s, x', h1, h2, h3, h4, h5⟩ := h
  rw [hx] at h3
  cases h3
  refine ⟨i, y, by omega, hz, hy, fun t z' y' ht hz' hy' => ?_, fun t z' y' ht hz' hy' => ?_⟩
  · by_cases e : t = i
    · subst e
      rw [hz] at hz'
      have := Int.ofNat.inj (Option.some.inj hz')
      subst this
      rw [hy] at hy'
      cases hy'
      exact Int.le_refl _
    · have := h4 t z' y' (by omega) hz' hy'
      omega
  · have := h4 t z' y' ht hz' hy'
    omega
theorem min_more {os : List Int} {i b z : Nat} {x y : Pd} (h : MinO l os i b) (hz : os[i]? = some (z : Int)) (hx : l[b]? = some x) (hy : l[z]? = some y) (hlt : ¬ y.2.1 < x.2.1) : MinO l os (i + 1) b := by
  obtain ⟨s, x', h1, h2, h3, h4, h5⟩ := h
  rw [hx] at h3
  cases h3
  refine ⟨s, x, by omega, h2, hx, fun t z' y' ht hz' hy' => ?_, h5⟩
  by_cases e : t = i
  · subst e
    rw [hz] at hz'
    have := Int.ofNat.inj (Option.some.inj hz')
    subst this
    rw [hy] at hy'
    cases hy'
    omega
  · exact h4 t z' y' (by omega) hz' hy'
/-- The search among the indices with a property finds the cheapest one. -/
theorem min_end {p : Pd → Bool} {b : Nat} {x : Pd} (h : MinO l (ixs p l) (ixs p l).length b) (hx : l[b]? = some x) : chP p l = some (b, x.2.1) := by
  obtain ⟨s, x', h1, h2, h3, h4, h5⟩ := h
  rw [hx] at h3
  cases h3
  have hpb : p x = true := by
    obtain ⟨j, y, e, h6, h7⟩ := ix_val h2
    have := Int.ofNat.inj e
    subst this
    rw [hx] at h6
    cases h6
    exact h7
  have S := ch_spec (c := p) (l := l) l.length (Nat.le_refl _)
  rw [List.take_length] at S
  unfold chP
  rcases S with ⟨-, g2⟩ | ⟨j, y, g1, g2, g3, g4, g5, g6⟩
  · have := g2 x (List.mem_iff_getElem?.2 ⟨b, hx⟩)
    rw [hpb] at this
    cases this
  · rw [g4]
    have n1 := ix_nth g2 g3
    have n2 := (List.getElem?_eq_some_iff.1 n1).1
    have le1 := h4 _ j y n2 n1 g2
    have le2 := g5 b x (List.getElem?_eq_some_iff.1 hx).1 hx hpb
    by_cases hbj : b < j
    · have := g6 b x hbj hx hpb
      omega
    by_cases hjb : j < b
    · have hs : (ixs p (l.take j)).length < s := by
        rcases Nat.lt_trichotomy (ixs p (l.take j)).length s with h | h | h
        · exact h
        · rw [h, h2] at n1
          have := Int.ofNat.inj (Option.some.inj n1)
          omega
        · have := ix_asc h2 n1 h
          omega
      have := h5 _ j y hs n1 g2
      omega
    · obtain rfl : j = b := by omega
      rw [hx] at g2
      cases g2
      rfl
theorem min_none {p : Pd → Bool} (h : (ixs p l).length = 0) : chP p l = none := by
  have S := ch_spec (c := p) (l := l) l.length (Nat.le_refl _)
  rw [List.take_length] at S
  unfold chP
  rcases S with ⟨g1, -⟩ | ⟨j, y, g1, g2, g3, -⟩
  · exact g1
  · have n1 := (List.getElem?_eq_some_iff.1 (ix_nth g2 g3)).1
    omega
end
end Go.Proofs.Ytkpmmojfnhfflaa
