/-
  Plain facts about calendars and their exceptions: the first bad one, the reason of a day, the active days of a range, the next and the previous active day: no program. Condition: none beyond each theorem's own hypotheses.
-/
import Derived.Test.YtlbockpaeacigaaIdt
namespace Go.Proofs.Ytlbockpaeacigaa
open Go

/-- A calendar: its identifier, its week, its first and its last day. -/
abbrev Cl := List UInt8 × (Nat → Bool) × Int × Int
/-- An exception: the calendar, the day, whether it adds the day. -/
abbrev Ex := Int × Int × Bool
/-- A day. -/
def dayP (d : Int) : Prop := 0 ≤ d ∧ d ≤ 36524
instance (d : Int) : Decidable (dayP d) := by unfold dayP; infer_instance

/-! ### The first bad one of a list -/
section
variable {κ α : Type}
/-- The first bad one from here on, behind those with these keys. -/
def fbF (bad : List κ → α → Int) (key : α → κ) (seen : List κ) (k : Nat) : List α → Int × Int
  | [] => (0, 0)
  | x :: r => if bad seen x = 0 then fbF bad key (seen ++ [key x]) (k + 1) r else ((k : Int), bad seen x)
variable {bad : List κ → α → Int} {key : α → κ}
theorem key_take {l : List α} {k : Nat} {x : α} (h : l[k]? = some x) : (l.take (k + 1)).map key = (l.take k).map key ++ [key x] := by
  rw [take_at l k x h, List.map_append]
  rfl
theorem fb_next {l : List α} {k : Nat} {x : α} {q : Int × Int} (hr : q = fbF bad key ((l.take k).map key) k (l.drop k)) (h : l[k]? = some x) (hb : bad ((l.take k).map key) x = 0) : q = fbF bad key ((l.take (k + 1)).map key) (k + 1) (l.drop (k + 1)) := by
  rw [hr, drop_at l k x h, key_take h]
  conv => lhs; unfold fbF
  rw [if_pos hb]
theorem fb_stop {l : List α} {k : Nat} {x : α} {q : Int × Int} (hr : q = fbF bad key ((l.take k).map key) k (l.drop k)) (h : l[k]? = some x) {e : Int} (hb : bad ((l.take k).map key) x = e) (he : e ≠ 0) : q = ((k : Int), e) := by
  rw [hr, drop_at l k x h]
  unfold fbF
  rw [if_neg (by rw [hb]; exact he), hb]
theorem fb_done {l : List α} {k : Nat} {q : Int × Int} (hr : q = fbF bad key ((l.take k).map key) k (l.drop k)) (h : l.length ≤ k) : q = (0, 0) := by
  rw [hr, List.drop_of_length_le h]
  rfl
theorem keys_mem {l : List α} {c : κ} : c ∈ l.map key ↔ ∃ (j : Nat) (x : α), l[j]? = some x ∧ key x = c := by
  rw [List.mem_map]
  constructor
  · rintro ⟨x, hx, rfl⟩
    obtain ⟨j, hj⟩ := List.mem_iff_getElem?.1 hx
    exact ⟨j, x, hj, rfl⟩
  · rintro ⟨j, x, hx, rfl⟩
    exact ⟨x, List.mem_iff_getElem?.2 ⟨j, hx⟩, rfl⟩
theorem keys_take {l : List α} {c : κ} {k : Nat} : c ∈ (l.take k).map key ↔ ∃ (j : Nat) (x : α), j < k ∧ l[j]? = some x ∧ key x = c := by
  rw [keys_mem]
  constructor
  · rintro ⟨j, x, hx, h⟩
    rw [List.getElem?_take] at hx
    split at hx
    · next hj => exact ⟨j, x, hj, hx, h⟩
    · cases hx
  · rintro ⟨j, x, hj, hx, h⟩
    exact ⟨j, x, by rw [List.getElem?_take, if_pos hj]; exact hx, h⟩
theorem keys_hit {l : List α} {c : κ} {k j : Nat} {x : α} (hj : j < k) (hx : l[j]? = some x) (h : key x = c) : c ∈ (l.take k).map key := keys_take.2 ⟨j, x, hj, hx, h⟩
theorem keys_none {l : List α} {c : κ} {k : Nat} (h : ∀ (j : Nat) (x : α), j < k → l[j]? = some x → key x ≠ c) : c ∉ (l.take k).map key := fun hm => by
  obtain ⟨j, x, hj, hx, hc⟩ := keys_take.1 hm
  exact h j x hj hx hc
end

/-- The first and the last day are days, in order. -/
def okR (f t : Int) : Prop := dayP f ∧ dayP t ∧ f ≤ t
instance (f t : Int) : Decidable (okR f t) := by unfold okR; infer_instance
/-- The error of one calendar behind calendars with these identifiers. -/
def badC (seen : List (List UInt8)) (x : Cl) : Int := if validB x.1 = false then 12 else if x.1 ∈ seen then 6 else if okR x.2.2.1 x.2.2.2 then 0 else 11
theorem badC_name {seen : List (List UInt8)} {x : Cl} (h : validB x.1 = false) : badC seen x = 12 := by unfold badC; rw [if_pos h]
theorem badC_twice {seen : List (List UInt8)} {x : Cl} (h : validB x.1 = true) (h2 : x.1 ∈ seen) : badC seen x = 6 := by unfold badC; rw [if_neg (by rw [h]; simp), if_pos h2]
theorem badC_date {seen : List (List UInt8)} {x : Cl} (h : validB x.1 = true) (h2 : x.1 ∉ seen) (h3 : ¬ okR x.2.2.1 x.2.2.2) : badC seen x = 11 := by unfold badC; rw [if_neg (by rw [h]; simp), if_neg h2, if_neg h3]
theorem badC_none {seen : List (List UInt8)} {x : Cl} (h : validB x.1 = true) (h2 : x.1 ∉ seen) (h3 : okR x.2.2.1 x.2.2.2) : badC seen x = 0 := by unfold badC; rw [if_neg (by rw [h]; simp), if_neg h2, if_pos h3]
/-- The identifier. -/
def idC (x : Cl) : List UInt8 := x.1
/-- What Check answers. -/
def chkC (l : List Cl) : Int × Int := if 64 < l.length then (0, 5) else fbF badC idC [] 0 l
theorem chkC_many {l : List Cl} (h : 64 < l.length) : chkC l = (0, 5) := by unfold chkC; rw [if_pos h]
theorem chkC_start {l : List Cl} (h : l.length ≤ 64) : chkC l = fbF badC idC ((l.take 0).map idC) 0 (l.drop 0) := by unfold chkC; rw [if_neg (by omega)]; rfl
/-- The error of one exception behind exceptions with these places. -/
def badX (n : Int) (seen : List (Int × Int)) (e : Ex) : Int := if e.1 < 0 ∨ n ≤ e.1 then 9 else if ¬ dayP e.2.1 then 11 else if (e.1, e.2.1) ∈ seen then 6 else 0
theorem badX_ref {n : Int} {seen : List (Int × Int)} {e : Ex} (h : e.1 < 0 ∨ n ≤ e.1) : badX n seen e = 9 := by unfold badX; rw [if_pos h]
theorem badX_date {n : Int} {seen : List (Int × Int)} {e : Ex} (h : ¬ (e.1 < 0 ∨ n ≤ e.1)) (h2 : ¬ dayP e.2.1) : badX n seen e = 11 := by unfold badX; rw [if_neg h, if_pos h2]
theorem badX_twice {n : Int} {seen : List (Int × Int)} {e : Ex} (h : ¬ (e.1 < 0 ∨ n ≤ e.1)) (h2 : dayP e.2.1) (h3 : (e.1, e.2.1) ∈ seen) : badX n seen e = 6 := by unfold badX; rw [if_neg h, if_neg (fun k => k h2), if_pos h3]
theorem badX_none {n : Int} {seen : List (Int × Int)} {e : Ex} (h : ¬ (e.1 < 0 ∨ n ≤ e.1)) (h2 : dayP e.2.1) (h3 : (e.1, e.2.1) ∉ seen) : badX n seen e = 0 := by unfold badX; rw [if_neg h, if_neg (fun k => k h2), if_neg h3]
/-- The place. -/
def plX (e : Ex) : Int × Int := (e.1, e.2.1)
/-- What CheckExceptions answers. -/
def chkX (n : Int) (l : List Ex) : Int × Int := if 256 < l.length then (0, 5) else fbF (badX n) plX [] 0 l
theorem chkX_many {n : Int} {l : List Ex} (h : 256 < l.length) : chkX n l = (0, 5) := by unfold chkX; rw [if_pos h]
theorem chkX_start {n : Int} {l : List Ex} (h : l.length ≤ 256) : chkX n l = fbF (badX n) plX ((l.take 0).map plX) 0 (l.drop 0) := by unfold chkX; rw [if_neg (by omega)]; rfl

/-! ### What the laws ask of their inputs -/
/-- At most 70 calendars, with identifiers of at most 2^10 bytes. -/
def namB (l : List Cl) : Bool := decide (l.length ≤ 70) && l.all fun x => decide (x.1.length ≤ 1024)
theorem namB_many {l : List Cl} (h : 70 < l.length) : namB l = false := by unfold namB; rw [decide_eq_false (by omega)]; rfl
theorem namB_long {l : List Cl} {k : Nat} {x : Cl} (h : l[k]? = some x) (hx : 1024 < x.1.length) : namB l = false := by
  unfold namB
  rw [Bool.and_eq_false_iff]
  refine .inr (List.all_eq_false.2 ⟨x, List.mem_of_getElem? h, ?_⟩)
  simpa using hx
theorem namB_of {l : List Cl} (h : l.length ≤ 70) (hx : ∀ (j : Nat) x, l[j]? = some x → x.1.length ≤ 1024) : namB l = true := by
  unfold namB
  rw [decide_eq_true h, Bool.true_and, List.all_eq_true]
  intro x hm
  obtain ⟨j, hj⟩ := List.mem_iff_getElem?.1 hm
  exact decide_eq_true (hx j x hj)
theorem namB_at {l : List Cl} (h : namB l = true) : ∀ (j : Nat) x, l[j]? = some x → x.1.length ≤ 1024 := by
  unfold namB at h
  rw [Bool.and_eq_true, List.all_eq_true] at h
  intro j x hx
  have := h.2 x (List.mem_of_getElem? hx)
  simpa using this
/-- At most 8 calendars, at most 20 exceptions. -/
def smlB (l : List Cl) (x : List Ex) : Bool := decide (l.length ≤ 8) && decide (x.length ≤ 20)
theorem smlB_of {l : List Cl} {x : List Ex} (h : smlB l x = true) : l.length ≤ 8 ∧ x.length ≤ 20 := by
  unfold smlB at h
  simpa using h

/-! ### The reason -/
/-- Whether the first exception of this calendar and day adds it. -/
def addF (i d : Int) : List Ex → Option Bool
  | [] => none
  | e :: r => if e.1 = i ∧ e.2.1 = d then some e.2.2 else addF i d r
theorem addF_hit {i d : Int} {l : List Ex} {k : Nat} {e : Ex} {q : Option Bool} (hr : q = addF i d (l.drop k)) (h : l[k]? = some e) (h1 : e.1 = i) (h2 : e.2.1 = d) : q = some e.2.2 := by
  rw [hr, drop_at l k e h]
  unfold addF
  rw [if_pos ⟨h1, h2⟩]
theorem addF_miss {i d : Int} {l : List Ex} {k : Nat} {e : Ex} {q : Option Bool} (hr : q = addF i d (l.drop k)) (h : l[k]? = some e) (h1 : ¬ (e.1 = i ∧ e.2.1 = d)) : q = addF i d (l.drop (k + 1)) := by
  rw [hr, drop_at l k e h]
  conv => lhs; unfold addF
  rw [if_neg h1]
theorem addF_done {i d : Int} {l : List Ex} {k : Nat} {q : Option Bool} (hr : q = addF i d (l.drop k)) (h : l.length ≤ k) : q = none := by
  rw [hr, List.drop_of_length_le h]
  rfl
theorem addF_start (i d : Int) (l : List Ex) : addF i d l = addF i d (l.drop 0) := rfl
/-- The exceptions of a calendar. -/
def ownX (i : Int) (l : List Ex) : List Ex := l.filter fun e => decide (e.1 = i)
theorem ownX_hit {i : Int} {l : List Ex} {k : Nat} {e : Ex} (h : l[k]? = some e) (h1 : e.1 = i) : ownX i (l.take (k + 1)) = ownX i (l.take k) ++ [e] := by
  unfold ownX
  rw [take_at l k e h, List.filter_append]
  simp [h1]
theorem ownX_miss {i : Int} {l : List Ex} {k : Nat} {e : Ex} (h : l[k]? = some e) (h1 : e.1 ≠ i) : ownX i (l.take (k + 1)) = ownX i (l.take k) := by
  unfold ownX
  rw [take_at l k e h, List.filter_append]
  simp [h1]
theorem ownX_len (i : Int) (l : List Ex) : (ownX i l).length ≤ l.length := List.length_filter_le _ _
theorem addF_own (i d : Int) : ∀ l : List Ex, addF i d (ownX i l) = addF i d l
  | [] => rfl
  | e :: r => by
    unfold ownX
    by_cases h : e.1 = i
    · rw [List.filter_cons_of_pos (by simp [h])]
      unfold addF
      rw [show addF i d (List.filter (fun e => decide (e.1 = i)) r) = addF i d r from addF_own i d r]
    · rw [List.filter_cons_of_neg (by simp [h])]
      conv => rhs; unfold addF
      rw [if_neg (fun k => h k.1)]
      exact addF_own i d r
theorem addF_snoc (i d : Int) (e : Ex) : ∀ l : List Ex, addF i d (l ++ [e]) = match addF i d l with | some b => some b | none => if e.1 = i ∧ e.2.1 = d then some e.2.2 else none
  | [] => rfl
  | x :: r => by
    rw [List.cons_append]
    unfold addF
    rw [addF_snoc i d e r]
    split <;> rfl
/-- The reason of a calendar that is there, on a day that is one. -/
def whyC (c : Cl) (a : Option Bool) (d : Int) : Int :=
  match a with
  | some true => 2
  | some false => 3
  | none => if d < c.2.2.1 ∨ c.2.2.2 < d then 5 else if c.2.1 ((d + 5) % 7).toNat = true then 1 else 4
/-- What Reason answers. -/
def rsnT (l : List Cl) (x : List Ex) (i d : Int) : Int :=
  if i < 0 ∨ (l.length : Int) ≤ i ∨ ¬ dayP d then 0 else match l[i.toNat]? with | none => 0 | some c => whyC c (addF i d x) d
theorem rsn_no {l : List Cl} {x : List Ex} {i d : Int} (h : i < 0 ∨ (l.length : Int) ≤ i ∨ ¬ dayP d) : rsnT l x i d = 0 := by unfold rsnT; rw [if_pos h]
theorem rsn_at {l : List Cl} {x : List Ex} {n : Nat} {d : Int} {c : Cl} (h : l[n]? = some c) (hd : dayP d) : rsnT l x (n : Int) d = whyC c (addF n d x) d := by
  have := (List.getElem?_eq_some_iff.1 h).1
  unfold rsnT
  rw [if_neg (by rintro (k | k | k) <;> first | omega | exact k hd), Int.toNat_natCast, h]
theorem why_add {c : Cl} {d : Int} : whyC c (some true) d = 2 := rfl
theorem why_rem {c : Cl} {d : Int} : whyC c (some false) d = 3 := rfl
theorem why_out {c : Cl} {d : Int} (h : d < c.2.2.1 ∨ c.2.2.2 < d) : whyC c none d = 5 := by unfold whyC; rw [if_pos h]
theorem why_pat {c : Cl} {d : Int} (h : ¬ (d < c.2.2.1 ∨ c.2.2.2 < d)) (h2 : c.2.1 ((d + 5) % 7).toNat = true) : whyC c none d = 1 := by unfold whyC; simp only; rw [if_neg h, if_pos h2]
theorem why_off {c : Cl} {d : Int} (h : ¬ (d < c.2.2.1 ∨ c.2.2.2 < d)) (h2 : c.2.1 ((d + 5) % 7).toNat = false) : whyC c none d = 4 := by unfold whyC; simp only; rw [if_neg h, if_neg (by rw [h2]; simp)]
theorem rsn_own (l : List Cl) (x : List Ex) (i d : Int) : rsnT l (ownX i x) i d = rsnT l x i d := by
  unfold rsnT
  rw [addF_own]
theorem why_range (c : Cl) (a : Option Bool) (d : Int) : 1 ≤ whyC c a d ∧ whyC c a d ≤ 5 := by
  unfold whyC
  split
  · decide
  · decide
  · split
    · decide
    · split <;> decide
theorem rsn_range (l : List Cl) (x : List Ex) (i d : Int) : 0 ≤ rsnT l x i d ∧ rsnT l x i d ≤ 5 := by
  unfold rsnT
  split
  · decide
  · split
    · decide
    · next c _ =>
      have := why_range c (addF i d x) d
      omega
/-- What Active answers. -/
def actT (l : List Cl) (x : List Ex) (i d : Int) : Bool := decide (rsnT l x i d = 1 ∨ rsnT l x i d = 2)
theorem act_of {r : Int} (h : r = 1 ∨ r = 2) : decide (r = 1 ∨ r = 2) = true := decide_eq_true h
theorem act_no {r : Int} (h : r ≠ 1) (h2 : r ≠ 2) : decide (r = 1 ∨ r = 2) = false := decide_eq_false (by omega)
theorem act_own (l : List Cl) (x : List Ex) (i : Int) : actT l (ownX i x) i = actT l x i := by
  funext d
  unfold actT
  rw [rsn_own]

/-! ### The days -/
section
variable (act : Int → Bool)
/-- The active ones of n days from lo on. -/
def dayK (lo : Int) : Nat → List Int
  | 0 => []
  | n + 1 => if act (lo + n) = true then dayK lo n ++ [lo + (n : Int)] else dayK lo n
/-- What Days answers. -/
def daysT (f t : Int) : List Int := dayK act (max f 0) (min t 36524 + 1 - max f 0).toNat
/-- The first active one of n days from d on. -/
def nxtF (d : Int) : Nat → Int × Bool
  | 0 => (0, false)
  | n + 1 => if act d = true then (d, true) else nxtF (d + 1) n
def nxtT (d : Int) : Int × Bool := nxtF act (max d 0) (36525 - max d 0).toNat
/-- The first active one of n days from d on, backwards. -/
def prvF (d : Int) : Nat → Int × Bool
  | 0 => (0, false)
  | n + 1 => if act d = true then (d, true) else prvF (d - 1) n
def prvT (d : Int) : Int × Bool := prvF act (min d 36524) (min d 36524 + 1).toNat
end
section
variable {act : Int → Bool}
theorem dayK_yes {lo : Int} {n : Nat} (h : act (lo + n) = true) : dayK act lo (n + 1) = dayK act lo n ++ [lo + (n : Int)] := by
  conv => lhs; unfold dayK
  rw [if_pos h]
theorem dayK_no {lo : Int} {n : Nat} (h : act (lo + n) = false) : dayK act lo (n + 1) = dayK act lo n := by
  conv => lhs; unfold dayK
  rw [if_neg (by rw [h]; simp)]
theorem dayK_le (lo : Int) : ∀ n : Nat, (dayK act lo n).length ≤ n
  | 0 => Nat.le_refl _
  | n + 1 => by
    have := dayK_le lo n
    cases h : act (lo + n) with
    | true =>
      rw [dayK_yes h, List.length_append]
      show _ + 1 ≤ _
      omega
    | false =>
      rw [dayK_no h]
      omega
theorem dayK_get {lo : Int} {k : Nat} (h : act (lo + k) = true) : ∀ m : Nat, k < m → (dayK act lo m)[(dayK act lo k).length]? = some (lo + (k : Int)) ∧ (dayK act lo k).length < (dayK act lo m).length
  | 0, hm => absurd hm (Nat.not_lt_zero _)
  | m + 1, hm => by
    by_cases e : k = m
    · subst e
      rw [dayK_yes h]
      exact ⟨by simp, by simp⟩
    · have ih := dayK_get h m (by omega)
      cases hb : act (lo + m) with
      | true =>
        rw [dayK_yes hb, List.length_append]
        refine ⟨?_, by omega⟩
        rw [List.getElem?_append_left ih.2]
        exact ih.1
      | false =>
        rw [dayK_no hb]
        exact ih
theorem dayK_nil {lo : Int} : ∀ m : Nat, dayK act lo m = [] → ∀ j : Nat, j < m → act (lo + j) = false
  | 0, _, _, hj => absurd hj (Nat.not_lt_zero _)
  | m + 1, h, j, hj => by
    cases hb : act (lo + m) with
    | true =>
      rw [dayK_yes hb] at h
      simp at h
    | false =>
      by_cases e : j = m
      · rw [e]; exact hb
      · rw [dayK_no hb] at h
        exact dayK_nil m h j (by omega)
theorem dayK_first {lo : Int} : ∀ m : Nat, dayK act lo m ≠ [] → ∃ k : Nat, k < m ∧ act (lo + k) = true ∧ (∀ j : Nat, j < k → act (lo + j) = false) ∧ (dayK act lo m)[0]? = some (lo + (k : Int))
  | 0, h => absurd rfl h
  | m + 1, h => by
    by_cases h0 : dayK act lo m = []
    · cases hb : act (lo + m) with
      | false =>
        rw [dayK_no hb] at h
        exact absurd h0 h
      | true =>
        refine ⟨m, Nat.lt_succ_self _, hb, fun j hj => dayK_nil m h0 j hj, ?_⟩
        rw [dayK_yes hb, h0]
        rfl
    · obtain ⟨k, h1, h2, h3, h4⟩ := dayK_first m h0
      refine ⟨k, by omega, h2, h3, ?_⟩
      cases hb : act (lo + m) with
      | false => rw [dayK_no hb]; exact h4
      | true =>
        rw [dayK_yes hb, List.getElem?_append_left (List.length_pos_iff.2 h0)]
        exact h4
theorem dayK_last {lo : Int} : ∀ m : Nat, dayK act lo m ≠ [] → ∃ k : Nat, k < m ∧ act (lo + k) = true ∧ (∀ j : Nat, k < j → j < m → act (lo + j) = false) ∧ (dayK act lo m)[(dayK act lo m).length - 1]? = some (lo + (k : Int))
  | 0, h => absurd rfl h
  | m + 1, h => by
    cases hb : act (lo + m) with
    | true =>
      refine ⟨m, Nat.lt_succ_self _, hb, fun j h1 h2 => by omega, ?_⟩
      rw [dayK_yes hb]
      simp
    | false =>
      rw [dayK_no hb] at h ⊢
      obtain ⟨k, h1, h2, h3, h4⟩ := dayK_last m h
      refine ⟨k, by omega, h2, fun j hk hj => ?_, h4⟩
      by_cases e : j = m
      · rw [e]; exact hb
      · exact h3 j hk (by omega)
theorem daysT_lo {f t : Int} : daysT act f t = dayK act (max f 0) (min t 36524 + 1 - max f 0).toNat := rfl
theorem daysT_le {f t : Int} (h : t - f ≤ 400) : (daysT act f t).length ≤ 401 := Nat.le_trans (dayK_le _ _) (by omega)
theorem daysT_in {f t : Int} (h0 : 0 ≤ f) (h1 : t ≤ 36524) : daysT act f t = dayK act f (t + 1 - f).toNat := by
  unfold daysT
  rw [show max f 0 = f by omega, show min t 36524 = t by omega]
theorem nxtF_yes {d : Int} {n : Nat} (h : act d = true) : nxtF act d (n + 1) = (d, true) := by unfold nxtF; rw [if_pos h]
theorem nxtF_no {d : Int} {n : Nat} (h : act d = false) : nxtF act d (n + 1) = nxtF act (d + 1) n := by
  conv => lhs; unfold nxtF
  rw [if_neg (by rw [h]; simp)]
theorem prvF_yes {d : Int} {n : Nat} (h : act d = true) : prvF act d (n + 1) = (d, true) := by unfold prvF; rw [if_pos h]
theorem prvF_no {d : Int} {n : Nat} (h : act d = false) : prvF act d (n + 1) = prvF act (d - 1) n := by
  conv => lhs; unfold prvF
  rw [if_neg (by rw [h]; simp)]
theorem nxtF_skip : ∀ (m : Nat) (d : Int) (r : Nat), (∀ j : Nat, j < m → act (d + j) = false) → nxtF act d (m + r) = nxtF act (d + m) r
  | 0, d, r, _ => by rw [Nat.zero_add]; simp
  | m + 1, d, r, h => by
    have h0 := h 0 (by omega)
    simp only [Int.natCast_zero, Int.add_zero] at h0
    rw [show m + 1 + r = m + r + 1 by omega, nxtF_no h0, nxtF_skip m (d + 1) r (fun j hj => by have := h (j + 1) (by omega); rw [show d + 1 + (j : Int) = d + ((j + 1 : Nat) : Int) by omega]; exact this)]
    congr 1
    omega
theorem prvF_skip : ∀ (m : Nat) (d : Int) (r : Nat), (∀ j : Nat, j < m → act (d - j) = false) → prvF act d (m + r) = prvF act (d - m) r
  | 0, d, r, _ => by rw [Nat.zero_add]; simp
  | m + 1, d, r, h => by
    have h0 := h 0 (by omega)
    simp only [Int.natCast_zero, Int.sub_zero] at h0
    rw [show m + 1 + r = m + r + 1 by omega, prvF_no h0, prvF_skip m (d - 1) r (fun j hj => by have := h (j + 1) (by omega); rw [show d - 1 - (j : Int) = d - ((j + 1 : Nat) : Int) by omega]; exact this)]
    congr 1
    omega
theorem nxtF_is : ∀ (n : Nat) (d : Int), nxtF act d n = (0, false) ∨ ∃ a, d ≤ a ∧ nxtF act d n = (a, true)
  | 0, _ => .inl rfl
  | n + 1, d => by
    cases h : act d with
    | true => exact .inr ⟨d, Int.le_refl _, nxtF_yes h⟩
    | false =>
      rw [nxtF_no h]
      rcases nxtF_is n (d + 1) with h1 | ⟨a, h1, h2⟩
      · exact .inl h1
      · exact .inr ⟨a, by omega, h2⟩
theorem prvF_is : ∀ (n : Nat) (d : Int), prvF act d n = (0, false) ∨ ∃ a, a ≤ d ∧ prvF act d n = (a, true)
  | 0, _ => .inl rfl
  | n + 1, d => by
    cases h : act d with
    | true => exact .inr ⟨d, Int.le_refl _, prvF_yes h⟩
    | false =>
      rw [prvF_no h]
      rcases prvF_is n (d - 1) with h1 | ⟨a, h1, h2⟩
      · exact .inl h1
      · exact .inr ⟨a, by omega, h2⟩
theorem nxt_start (d : Int) : nxtT act d = nxtF act (max d 0) (36525 - max d 0).toNat := rfl
theorem nxt_hit {q : Int × Bool} {d : Int} (h : q = nxtF act d (36525 - d).toNat) (hd : d ≤ 36524) (ha : act d = true) : q = (d, true) := by
  rw [h, show (36525 - d).toNat = (36524 - d).toNat + 1 by omega, nxtF_yes ha]
theorem nxt_miss {q : Int × Bool} {d : Int} (h : q = nxtF act d (36525 - d).toNat) (hd : d ≤ 36524) (ha : act d = false) : q = nxtF act (d + 1) (36525 - (d + 1)).toNat := by
  rw [h, show (36525 - d).toNat = (36525 - (d + 1)).toNat + 1 by omega, nxtF_no ha]
theorem nxt_end {q : Int × Bool} {d : Int} (h : q = nxtF act d (36525 - d).toNat) (hd : 36524 < d) : q = (0, false) := by
  rw [h, show (36525 - d).toNat = 0 by omega]
  rfl
theorem prv_start (d : Int) : prvT act d = prvF act (min d 36524) (min d 36524 + 1).toNat := rfl
theorem prv_hit {q : Int × Bool} {d : Int} (h : q = prvF act d (d + 1).toNat) (hd : 0 ≤ d) (ha : act d = true) : q = (d, true) := by
  rw [h, show (d + 1).toNat = d.toNat + 1 by omega, prvF_yes ha]
theorem prv_miss {q : Int × Bool} {d : Int} (h : q = prvF act d (d + 1).toNat) (hd : 0 ≤ d) (ha : act d = false) : q = prvF act (d - 1) (d - 1 + 1).toNat := by
  rw [h, show (d + 1).toNat = (d - 1 + 1).toNat + 1 by omega, prvF_no ha]
theorem prv_end {q : Int × Bool} {d : Int} (h : q = prvF act d (d + 1).toNat) (hd : d < 0) : q = (0, false) := by
  rw [h, show (d + 1).toNat = 0 by omega]
  rfl
theorem daysT_max (f t : Int) : (daysT act f t).length ≤ 36525 := Nat.le_trans (dayK_le _ _) (by omega)
/-- The range has no active day: the next one lies behind it, the previous one ahead of it. -/
theorem range_none {f t : Int} (h0 : 0 ≤ f) (h1 : f ≤ t) (h2 : t ≤ 36524) (h : daysT act f t = []) :
    (nxtT act f = (0, false) ∨ ∃ a, t < a ∧ nxtT act f = (a, true)) ∧ (prvT act t = (0, false) ∨ ∃ b, b < f ∧ prvT act t = (b, true)) := by
  rw [daysT_in h0 h2] at h
  obtain ⟨m, hm⟩ : ∃ m : Nat, (t + 1 - f).toNat = m := ⟨_, rfl⟩
  rw [hm] at h
  have hn := dayK_nil m h
  constructor
  · unfold nxtT
    rw [show max f 0 = f by omega, show (36525 - f).toNat = m + (36524 - t).toNat by omega, nxtF_skip m f _ hn]
    rcases nxtF_is (act := act) (36524 - t).toNat (f + m) with h3 | ⟨a, h3, h4⟩
    · exact .inl h3
    · exact .inr ⟨a, by omega, h4⟩
  · unfold prvT
    rw [show min t 36524 = t by omega, show (t + 1).toNat = m + f.toNat by omega, prvF_skip m t _ (fun j hj => by have := hn (m - 1 - j) (by omega); rw [show t - (j : Int) = f + ((m - 1 - j : Nat) : Int) by omega]; exact this)]
    rcases prvF_is (act := act) f.toNat (t - m) with h3 | ⟨a, h3, h4⟩
    · exact .inl h3
    · exact .inr ⟨a, by omega, h4⟩
/-- The range has active days: the next one is the first of them, the previous one the last. -/
theorem range_some {f t : Int} (h0 : 0 ≤ f) (h1 : f ≤ t) (h2 : t ≤ 36524) (h : daysT act f t ≠ []) :
    ∃ a b, nxtT act f = (a, true) ∧ (daysT act f t)[0]? = some a ∧ prvT act t = (b, true) ∧ (daysT act f t)[(daysT act f t).length - 1]? = some b := by
  rw [daysT_in h0 h2] at h ⊢
  obtain ⟨m, hm⟩ : ∃ m : Nat, (t + 1 - f).toNat = m := ⟨_, rfl⟩
  rw [hm] at h ⊢
  obtain ⟨k, a1, a2, a3, a4⟩ := dayK_first m h
  obtain ⟨n, b1, b2, b3, b4⟩ := dayK_last m h
  refine ⟨_, _, ?_, a4, ?_, b4⟩
  · unfold nxtT
    rw [show max f 0 = f by omega, show (36525 - f).toNat = k + ((36524 - f).toNat - k + 1) by omega, nxtF_skip k f _ a3, nxtF_yes a2]
  · unfold prvT
    rw [show min t 36524 = t by omega, show (t + 1).toNat = (m - 1 - n) + (f.toNat + n + 1) by omega, prvF_skip (m - 1 - n) t _ (fun j hj => by have := b3 (m - 1 - j) (by omega) (by omega); rw [show t - (j : Int) = f + ((m - 1 - j : Nat) : Int) by omega]; exact this)]
    rw [show t - ((m - 1 - n : Nat) : Int) = f + (n : Int) by omega, prvF_yes b2]
end

/-! ### Weeks, and one exception more -/
theorem week_same {l : List Cl} {n : Nat} {c : Cl} {d : Int} (h : l[n]? = some c) (h0 : 0 ≤ d) (h1 : d ≤ 36517) (hf : c.2.2.1 ≤ d) (ht : d + 7 ≤ c.2.2.2) : actT l [] (n : Int) (d + 7) = actT l [] (n : Int) d := by
  unfold actT
  rw [rsn_at h (d := d + 7) ⟨by omega, by omega⟩, rsn_at h (d := d) ⟨by omega, by omega⟩]
  have e : whyC c none (d + 7) = whyC c none d := by
    unfold whyC
    simp only
    rw [if_neg (c := d + 7 < c.2.2.1 ∨ c.2.2.2 < d + 7) (by omega), if_neg (c := d < c.2.2.1 ∨ c.2.2.2 < d) (by omega), show (d + 7 + 5) % 7 = (d + 5) % 7 by omega]
  unfold addF
  rw [e]
theorem week_out {l : List Cl} {n : Nat} {c : Cl} {d : Int} (h : l[n]? = some c) (h0 : 0 ≤ d) (h1 : d ≤ 36517) (ho : d < c.2.2.1 ∨ c.2.2.2 < d) : actT l [] (n : Int) d = false := by
  unfold actT
  rw [rsn_at h (d := d) ⟨by omega, by omega⟩]
  unfold addF
  rw [why_out ho]
  rfl
theorem addF_other {x : List Ex} {e : Ex} {i d : Int} (h : e.1 ≠ i ∨ e.2.1 ≠ d) : addF i d (x ++ [e]) = addF i d x := by
  rw [addF_snoc, if_neg (fun k => h.elim (fun a => a k.1) (fun a => a k.2))]
  cases addF i d x <;> rfl
theorem more_other {l : List Cl} {x : List Ex} {e : Ex} {i d : Int} (h : e.1 ≠ i ∨ e.2.1 ≠ d) : rsnT l (x ++ [e]) i d = rsnT l x i d := by
  unfold rsnT
  rw [addF_other h]
theorem more_kept {l : List Cl} {x : List Ex} {e : Ex} {i d : Int} (h : rsnT l x i d = 0 ∨ rsnT l x i d = 2 ∨ rsnT l x i d = 3) : rsnT l (x ++ [e]) i d = rsnT l x i d := by
  unfold rsnT at h ⊢
  split
  · rfl
  · next hn =>
    rw [if_neg hn] at h
    split
    · rfl
    · next c hc =>
      rw [hc] at h
      simp only at h
      rw [addF_snoc]
      cases ha : addF i d x with
      | some b => rfl
      | none =>
        rw [ha] at h
        exfalso
        unfold whyC at h
        simp only at h
        split at h
        · omega
        · split at h <;> omega
theorem more_new {l : List Cl} {x : List Ex} {e : Ex} (h : ¬ (rsnT l x e.1 e.2.1 = 0 ∨ rsnT l x e.1 e.2.1 = 2 ∨ rsnT l x e.1 e.2.1 = 3)) : rsnT l (x ++ [e]) e.1 e.2.1 = if e.2.2 = true then 2 else 3 := by
  unfold rsnT at h ⊢
  split
  · next hn =>
    rw [if_pos hn] at h
    exact absurd (.inl rfl) h
  · next hn =>
    rw [if_neg hn] at h
    split
    · next hc =>
      rw [hc] at h
      exact absurd (.inl rfl) h
    · next c hc =>
      rw [hc] at h
      simp only at h
      rw [addF_snoc]
      cases ha : addF e.1 e.2.1 x with
      | some b =>
        rw [ha] at h
        cases b
        · exact absurd (.inr (.inr rfl)) h
        · exact absurd (.inr (.inl rfl)) h
      | none =>
        simp only
        rw [if_pos ⟨trivial, trivial⟩]
        cases e.2.2 <;> rfl
end Go.Proofs.Ytlbockpaeacigaa
