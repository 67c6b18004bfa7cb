/-
  Plain facts about trips: the text of a pattern tells the pattern, groups of equal keys in the order of their first indices, a later one behind an earlier one, events, the first trip that is not valid: no program. Condition: none beyond each theorem's own hypotheses.
-/
import Derived.Test.YtfbobfejnbhjbaaDoorTcl
import Derived.Test.YtfbobfejnbhjbaaDoorIdt
import Derived.Lib.ItoaNum
namespace Go.Proofs.YtfbobfejnbhjbaaDoor
open Go Go.RowKit

/-! ### Numerals -/
theorem dc_step (u : Nat) (h : ¬ u < 10) : Lib.decDigits u = Lib.decDigits (u / 10) ++ [UInt8.ofNat (48 + u % 10)] := by rw [Lib.decDigits, dif_neg h]
theorem of_dig {a b : Nat} (ha : a < 10) (hb : b < 10) (h : UInt8.ofNat (48 + a) = UInt8.ofNat (48 + b)) : a = b := by
  have := congrArg UInt8.toNat h
  rw [UInt8.toNat_ofNat', UInt8.toNat_ofNat'] at this
  omega
theorem dc_ne (u : Nat) : Lib.decDigits u ≠ [] := by
  by_cases h : u < 10
  · rw [Lib.decDigits_one h]; simp
  · rw [dc_step u h]; simp
theorem dc_inj (u : Nat) : ∀ v : Nat, Lib.decDigits u = Lib.decDigits v → u = v := by
  induction u using Nat.strongRecOn with
  | _ u ih =>
    intro v h
    by_cases hu : u < 10
    · by_cases hv : v < 10
      · rw [Lib.decDigits_one hu, Lib.decDigits_one hv] at h
        exact of_dig hu hv (List.cons.inj h).1
      · rw [Lib.decDigits_one hu, dc_step v hv] at h
        have h1 := congrArg List.length h
        rw [List.length_append, List.length_singleton, List.length_singleton] at h1
        have h2 := List.length_pos_iff.2 (dc_ne (v / 10))
        omega
    · by_cases hv : v < 10
      · rw [Lib.decDigits_one hv, dc_step u hu] at h
        have h1 := congrArg List.length h
        rw [List.length_append, List.length_singleton, List.length_singleton] at h1
        have h2 := List.length_pos_iff.2 (dc_ne (u / 10))
        omega
      · rw [dc_step u hu, dc_step v hv] at h
        obtain ⟨h1, h2⟩ := List.append_inj' h rfl
        have e1 := ih (u / 10) (by omega) (v / 10) h1
        have e2 := of_dig (by omega) (by omega) (List.cons.inj h2).1
        omega
/-- A byte that a numeral has. -/
def nmB (c : UInt8) : Bool := decide (c.toNat ≤ 57) && decide (c.toNat ≠ 44)
theorem dc_nm (u : Nat) : ∀ c ∈ Lib.decDigits u, nmB c = true ∧ c ≠ 45 := by
  induction u using Nat.strongRecOn with
  | _ u ih =>
    intro c hc
    have one : ∀ a, a < 10 → nmB (UInt8.ofNat (48 + a)) = true ∧ UInt8.ofNat (48 + a) ≠ 45 := by decide +kernel
    by_cases hu : u < 10
    · rw [Lib.decDigits_one hu, List.mem_singleton] at hc
      rw [hc]
      exact one u hu
    · rw [dc_step u hu, List.mem_append, List.mem_singleton] at hc
      rcases hc with hc | rfl
      · exact ih (u / 10) (by omega) c hc
      · exact one _ (by omega)
theorem it_nm (n : Int) : ∀ c ∈ Lib.itoa n, nmB c = true := by
  unfold Lib.itoa
  split
  · intro c hc
    rcases List.mem_cons.1 hc with rfl | hc
    · decide
    · exact (dc_nm _ c hc).1
  · exact fun c hc => (dc_nm _ c hc).1
theorem it_inj {n m : Int} (h : Lib.itoa n = Lib.itoa m) : n = m := by
  have key : ∀ (a : Nat) (r : List UInt8), Lib.decDigits a ≠ 45 :: r := fun a r e => (dc_nm a 45 (by rw [e]; exact List.mem_cons_self)).2 rfl
  unfold Lib.itoa at h
  split at h <;> split at h
  · have := dc_inj _ _ (List.cons.inj h).2
    omega
  · exact absurd h.symm (key _ _)
  · exact absurd h (key _ _)
  · have := dc_inj _ _ h
    omega

/-! ### Patterns and their texts -/
/-- What two calls with the same index of trips with the same pattern have in common. -/
abbrev Vs := Int × Bool × Bool
def visC (x : Cl) : Vs := (x.1, x.2.2.2.1, x.2.2.2.2)
/-- The visits of a trip's calls. -/
def patV (l : List Cl) : List Vs := l.map visC
/-- The stops. -/
def stpC (l : List Cl) : List Int := l.map fun x => x.1
/-- The text of a visit without its end. -/
def hdV (v : Vs) : List UInt8 := Lib.itoa v.1 ++ ((if v.2.1 then [98] else []) ++ (if v.2.2 then [97] else []))
def txV (v : Vs) : List UInt8 := hdV v ++ [44]
/-- The text of a pattern. -/
def txP (p : List Vs) : List UInt8 := p.flatMap txV
theorem filter_nm (l : List UInt8) (h : ∀ c ∈ l, nmB c = true) : l.filter nmB = l := List.filter_eq_self.2 h
theorem hd_num (v : Vs) : (hdV v).filter nmB = Lib.itoa v.1 := by
  obtain ⟨n, b, a⟩ := v
  unfold hdV
  rw [List.filter_append, filter_nm _ (it_nm n), List.filter_append]
  cases b <;> cases a <;> simp [nmB]
theorem hd_end (v : Vs) : (hdV v).filter (fun c => !nmB c) = ((if v.2.1 then [98] else []) ++ (if v.2.2 then [97] else [])) := by
  obtain ⟨n, b, a⟩ := v
  unfold hdV
  rw [List.filter_append, List.filter_eq_nil_iff.2 (fun c hc => by rw [it_nm n c hc]; simp)]
  cases b <;> cases a <;> simp [nmB]
theorem hd_inj {v w : Vs} (h : hdV v = hdV w) : v = w := by
  have h1 := congrArg (List.filter nmB) h
  have h2 := congrArg (List.filter fun c => !nmB c) h
  rw [hd_num, hd_num] at h1
  rw [hd_end, hd_end] at h2
  have e := it_inj h1
  obtain ⟨n, b, a⟩ := v
  obtain ⟨m, c, d⟩ := w
  cases e
  revert h2
  cases b <;> cases a <;> cases c <;> cases d <;> simp
theorem hd_no (v : Vs) : (44 : UInt8) ∉ hdV v := by
  obtain ⟨n, b, a⟩ := v
  unfold hdV
  rw [List.mem_append]
  rintro (h | h)
  · have := it_nm n 44 h
    exact absurd this (by decide)
  · revert h
    cases b <;> cases a <;> simp
theorem cut_eq {c : UInt8} : ∀ (a b r s : List UInt8), c ∉ a → c ∉ b → a ++ c :: r = b ++ c :: s → a = b ∧ r = s
  | [], [], r, s, _, _, h => ⟨rfl, (List.cons.inj h).2⟩
  | [], y :: b, r, s, _, hb, h => by
    have := (List.cons.inj h).1
    exact absurd (by rw [this]; exact List.mem_cons_self) hb
  | x :: a, [], r, s, ha, _, h => by
    have := (List.cons.inj h).1
    exact absurd (by rw [← this]; exact List.mem_cons_self) ha
  | x :: a, y :: b, r, s, ha, hb, h => by
    have h' : x :: (a ++ c :: r) = y :: (b ++ c :: s) := h
    obtain ⟨h1, h2⟩ := List.cons.inj h'
    obtain ⟨e1, e2⟩ := cut_eq a b r s (fun hm => ha (List.mem_cons_of_mem _ hm)) (fun hm => hb (List.mem_cons_of_mem _ hm)) h2
    exact ⟨by rw [h1, e1], e2⟩
theorem txP_cons (v : Vs) (r : List Vs) : txP (v :: r) = hdV v ++ 44 :: txP r := by
  unfold txP
  rw [List.flatMap_cons]
  unfold txV
  rw [List.append_assoc]
  rfl
theorem txP_inj : ∀ (p q : List Vs), txP p = txP q → p = q
  | [], [], _ => rfl
  | [], v :: r, h => by
    rw [txP_cons] at h
    have := congrArg List.length h
    rw [List.length_append, List.length_cons] at this
    exact absurd this (by show ¬ (0 = _); omega)
  | v :: r, [], h => by
    rw [txP_cons] at h
    have := congrArg List.length h
    rw [List.length_append, List.length_cons] at this
    exact absurd this (by show ¬ (_ = 0); omega)
  | v :: p, w :: q, h => by
    rw [txP_cons, txP_cons] at h
    obtain ⟨e1, e2⟩ := cut_eq _ _ _ _ (hd_no v) (hd_no w) h
    rw [hd_inj e1, txP_inj p q e2]
theorem patV_snoc {l : List Cl} {k : Nat} {x : Cl} (h : l[k]? = some x) : patV (l.take (k + 1)) = patV (l.take k) ++ [visC x] := by
  unfold patV
  rw [take_at l k x h, List.map_append]
  rfl
/-- The text, one call longer. -/
theorem txP_snoc {l : List Cl} {k : Nat} {x : Cl} (h : l[k]? = some x) : txP (patV (l.take (k + 1))) = txP (patV (l.take k)) ++ Lib.itoa x.1 ++ (if x.2.2.2.1 then [98] else []) ++ (if x.2.2.2.2 then [97] else []) ++ [44] := by
  rw [patV_snoc h]
  unfold txP
  rw [List.flatMap_append]
  simp [txV, hdV, visC]
theorem stp_snoc {l : List Cl} {k : Nat} {x : Cl} (h : l[k]? = some x) : stpC (l.take (k + 1)) = stpC (l.take k) ++ [x.1] := by
  unfold stpC
  rw [take_at l k x h, List.map_append]
  rfl
theorem stp_len (l : List Cl) : (stpC l).length = l.length := List.length_map _
theorem stp_at {l : List Cl} {k : Nat} {x : Cl} (h : l[k]? = some x) : (stpC l)[k]? = some x.1 := by unfold stpC; rw [List.getElem?_map, h]; rfl
/-- How long a numeral is. -/
theorem dc_len (k : Nat) : ∀ u : Nat, 1 ≤ k → u < 10 ^ k → (Lib.decDigits u).length ≤ k := by
  induction k with
  | zero => intro u h; omega
  | succ k ih =>
    intro u _ h
    by_cases hu : u < 10
    · rw [Lib.decDigits_one hu]; simp
    · rw [dc_step u hu, List.length_append]
      have : 1 ≤ k := by
        rcases Nat.eq_zero_or_pos k with h0 | h0
        · rw [h0] at h; omega
        · exact h0
      have := ih (u / 10) this (by rw [Nat.pow_succ] at h; omega)
      simp
      omega
theorem it_len (n : Int) (h0 : -9223372036854775808 ≤ n) (h1 : n ≤ 9223372036854775807) : (Lib.itoa n).length ≤ 20 := by
  unfold Lib.itoa
  split
  · have := dc_len 19 n.natAbs (by omega) (by omega)
    rw [List.length_cons]
    omega
  · have := dc_len 19 n.toNat (by omega) (by omega)
    omega
/-- The stops are ints. -/
def OkS (l : List Cl) : Prop := ∀ x ∈ l, -9223372036854775808 ≤ x.1 ∧ x.1 ≤ 9223372036854775807
theorem OkS.at {l : List Cl} (h : OkS l) {k : Nat} {x : Cl} (hx : l[k]? = some x) : -9223372036854775808 ≤ x.1 ∧ x.1 ≤ 9223372036854775807 := h x (List.mem_iff_getElem?.2 ⟨k, hx⟩)
theorem txP_len : ∀ l : List Cl, OkS l → (txP (patV l)).length ≤ 23 * l.length
  | [], _ => Nat.le_refl _
  | x :: r, h => by
    have hx := h x List.mem_cons_self
    have ih := txP_len r fun y hy => h y (List.mem_cons_of_mem _ hy)
    have hi := it_len x.1 hx.1 hx.2
    show (txP (visC x :: patV r)).length ≤ _
    rw [txP_cons, List.length_append, List.length_cons, List.length_cons]
    unfold hdV
    rw [List.length_append, List.length_append]
    have e1 : (visC x).1 = x.1 := rfl
    rw [e1]
    have e2 : (if (visC x).2.1 then [(98 : UInt8)] else []).length ≤ 1 := by split <;> simp
    have e3 : (if (visC x).2.2 then [(97 : UInt8)] else []).length ≤ 1 := by split <;> simp
    omega
theorem OkS.take {l : List Cl} (h : OkS l) (k : Nat) : OkS (l.take k) := fun x hx => h x (List.mem_of_mem_take hx)
theorem txP_take {l : List Cl} (h : OkS l) (k : Nat) : (txP (patV (l.take k))).length ≤ 23 * l.length := by
  have h1 := txP_len (l.take k) (h.take k)
  have : (l.take k).length ≤ l.length := by rw [List.length_take]; omega
  omega

/-! ### The same pattern -/
def sameP (a b : List Cl) : Bool := decide (patV a = patV b)
theorem same_len {a b : List Cl} (h : a.length ≠ b.length) : sameP a b = false := decide_eq_false fun e => h (by
  have := congrArg List.length e
  unfold patV at this
  rw [List.length_map, List.length_map] at this
  exact this)
theorem same_lens {a b : List Cl} (h : sameP a b = true) : a.length = b.length := by
  by_cases e : a.length = b.length
  · exact e
  · rw [same_len e] at h; cases h
theorem same_next {a b : List Cl} {k : Nat} {x y : Cl} (h : patV (a.take k) = patV (b.take k)) (hx : a[k]? = some x) (hy : b[k]? = some y) (e : visC x = visC y) : patV (a.take (k + 1)) = patV (b.take (k + 1)) := by
  rw [patV_snoc hx, patV_snoc hy, h, e]
theorem same_stop {a b : List Cl} {k : Nat} {x y : Cl} (hx : a[k]? = some x) (hy : b[k]? = some y) (e : visC x ≠ visC y) : sameP a b = false := decide_eq_false fun h => e (by
  have h1 : (patV a)[k]? = some (visC x) := by unfold patV; rw [List.getElem?_map, hx]; rfl
  have h2 : (patV b)[k]? = some (visC y) := by unfold patV; rw [List.getElem?_map, hy]; rfl
  rw [h, h2] at h1
  exact (Option.some.inj h1).symm)
theorem same_done {a b : List Cl} {k : Nat} (h : patV (a.take k) = patV (b.take k)) (ha : a.length ≤ k) (hb : b.length ≤ k) : sameP a b = true := by
  rw [List.take_of_length_le ha, List.take_of_length_le hb] at h
  exact decide_eq_true h
theorem vis_yes {s t : Int} {a b c d o u : Int} {p q p' q' : Bool} (h1 : s = t) (h2 : p = p') (h3 : q = q') (_ : a = b) (_ : c = d) (_ : o = u) : visC (s, a, c, p, q) = visC (t, b, d, p', q') := by
  subst h1 h2 h3
  rfl
theorem same_self (a : List Cl) : sameP a a = true := decide_eq_true rfl
theorem same_comm (a b : List Cl) : sameP a b = sameP b a := by
  unfold sameP
  rw [Bool.eq_iff_iff, decide_eq_true_iff, decide_eq_true_iff]
  exact eq_comm
/-! ### Groups of equal keys -/
section
variable {κ : Type} [DecidableEq κ]
/-- One key more. -/
def uqS (s : List κ) (x : κ) : List κ := if x ∈ s then s else s ++ [x]
/-- The different keys in the order in which they come first. -/
def uq (ks : List κ) : List κ := ks.foldl uqS []
theorem uq_snoc {ks : List κ} {k : Nat} {x : κ} (h : ks[k]? = some x) : uq (ks.take (k + 1)) = uqS (uq (ks.take k)) x := by
  unfold uq
  rw [take_at ks k x h, List.foldl_append]
  rfl
theorem uqF_mem : ∀ (ks s : List κ) (x : κ), x ∈ ks.foldl uqS s ↔ x ∈ s ∨ x ∈ ks
  | [], s, x => by simp
  | y :: r, s, x => by
    rw [List.foldl_cons, uqF_mem r, List.mem_cons]
    unfold uqS
    split
    · next h =>
      constructor
      · rintro (h1 | h1)
        · exact .inl h1
        · exact .inr (.inr h1)
      · rintro (h1 | rfl | h1)
        · exact .inl h1
        · exact .inl h
        · exact .inr h1
    · rw [List.mem_append, List.mem_singleton]
      constructor
      · rintro ((h1 | h1) | h1)
        · exact .inl h1
        · exact .inr (.inl h1)
        · exact .inr (.inr h1)
      · rintro (h1 | h1 | h1)
        · exact .inl (.inl h1)
        · exact .inl (.inr h1)
        · exact .inr h1
theorem uq_mem {ks : List κ} {x : κ} : x ∈ uq ks ↔ x ∈ ks := by unfold uq; rw [uqF_mem]; simp
theorem uqF_nodup : ∀ (ks s : List κ), s.Nodup → (ks.foldl uqS s).Nodup
  | [], s, h => h
  | y :: r, s, h => by
    rw [List.foldl_cons]
    refine uqF_nodup r _ ?_
    unfold uqS
    split
    · exact h
    · next hn => exact List.nodup_append.2 ⟨h, by simp, fun a ha b hb => by rw [List.mem_singleton] at hb; rw [hb]; exact fun e => hn (e ▸ ha)⟩
theorem uq_nodup (ks : List κ) : (uq ks).Nodup := uqF_nodup ks [] (by simp)
theorem uqF_pre : ∀ (ks s : List κ), ∃ t, ks.foldl uqS s = s ++ t
  | [], s => ⟨[], by simp⟩
  | y :: r, s => by
    rw [List.foldl_cons]
    obtain ⟨t, ht⟩ := uqF_pre r (uqS s y)
    rw [ht]
    unfold uqS
    split
    · exact ⟨t, rfl⟩
    · exact ⟨[y] ++ t, by rw [List.append_assoc]⟩
theorem uq_pre (ks : List κ) (k : Nat) : ∃ t, uq ks = uq (ks.take k) ++ t := by
  unfold uq
  conv => enter [1, t, 1]; rw [← List.take_append_drop k ks, List.foldl_append]
  exact uqF_pre _ _
theorem uq_le : ∀ ks : List κ, (uq ks).length ≤ ks.length := by
  have F : ∀ (ks s : List κ), (ks.foldl uqS s).length ≤ s.length + ks.length := by
    intro ks
    induction ks with
    | nil => intro s; simp
    | cons y r ih =>
      intro s
      rw [List.foldl_cons]
      have := ih (uqS s y)
      have h2 : (uqS s y).length ≤ s.length + 1 := by unfold uqS; split <;> simp
      rw [List.length_cons]
      omega
  intro ks
  have := F ks []
  rw [List.length_nil, Nat.zero_add] at this
  exact this
/-- Whether a key is this one. -/
def isK (x y : κ) : Bool := decide (y = x)
/-- The groups: for each different key the indices at which it stands. -/
def grp (ks : List κ) : List (List Int) := (uq ks).map fun x => ixs (isK x) ks
theorem grp_len (ks : List κ) : (grp ks).length = (uq ks).length := List.length_map _
theorem grp_none {ks : List κ} {k : Nat} (h : ks.length ≤ k) : grp (ks.take k) = grp ks := by rw [List.take_of_length_le h]
theorem ix_empty {α : Type} {p : α → Bool} : ∀ l : List α, (∀ x ∈ l, p x = false) → ixs p l = [] := by
  have F : ∀ (l : List α) (k : Nat), (∀ x ∈ l, p x = false) → ixF p k l = [] := by
    intro l
    induction l with
    | nil => intro k _; rfl
    | cons y r ih =>
      intro k h
      unfold ixF
      rw [if_neg (by rw [h y List.mem_cons_self]; simp)]
      exact ih _ fun x hx => h x (List.mem_cons_of_mem _ hx)
  exact fun l h => F l 0 h
theorem grp_new {ks : List κ} {k : Nat} {x : κ} (h : ks[k]? = some x) (hn : x ∉ uq (ks.take k)) : uq (ks.take (k + 1)) = uq (ks.take k) ++ [x] ∧ grp (ks.take (k + 1)) = grp (ks.take k) ++ [[(k : Int)]] := by
  have e : uq (ks.take (k + 1)) = uq (ks.take k) ++ [x] := by
    rw [uq_snoc h]
    unfold uqS
    rw [if_neg hn]
  refine ⟨e, ?_⟩
  unfold grp
  rw [e, List.map_append]
  congr 1
  · refine List.map_congr_left fun y hy => ?_
    exact ix_miss h (decide_eq_false fun e => hn (by rw [e]; exact hy))
  · rw [List.map_singleton, ix_hit h (decide_eq_true rfl), ix_empty (p := isK x) _ (fun y hy => decide_eq_false fun (e' : y = x) => hn (uq_mem.2 (by rw [← e']; exact hy)))]
    rfl
theorem grp_old {ks : List κ} {k : Nat} {x : κ} (h : ks[k]? = some x) (hm : x ∈ uq (ks.take k)) : uq (ks.take (k + 1)) = uq (ks.take k) ∧ (grp (ks.take k))[(uq (ks.take k)).idxOf x]? = some (ixs (isK x) (ks.take k)) ∧
    grp (ks.take (k + 1)) = (grp (ks.take k)).set ((uq (ks.take k)).idxOf x) (ixs (isK x) (ks.take k) ++ [(k : Int)]) := by
  have e : uq (ks.take (k + 1)) = uq (ks.take k) := by
    rw [uq_snoc h]
    unfold uqS
    rw [if_pos hm]
  have hi := List.idxOf_lt_length_iff.2 hm
  have hg : (uq (ks.take k))[(uq (ks.take k)).idxOf x]? = some x := by rw [List.getElem?_eq_getElem hi, List.getElem_idxOf hi]
  refine ⟨e, ?_, ?_⟩
  · unfold grp
    rw [List.getElem?_map, hg]
    rfl
  · refine List.ext_getElem? fun i => ?_
    rw [List.getElem?_set]
    unfold grp
    rw [e, List.getElem?_map, List.getElem?_map, List.length_map]
    by_cases hix : (uq (ks.take k)).idxOf x = i
    · subst hix
      rw [if_pos rfl, if_pos hi, hg]
      show some (ixs (isK x) (ks.take (k + 1))) = some _
      rw [ix_hit h (p := isK x) (decide_eq_true rfl)]
    · rw [if_neg hix]
      cases hy : (uq (ks.take k))[i]? with
      | none => rfl
      | some y =>
        show some (ixs (isK y) (ks.take (k + 1))) = some (ixs (isK y) (ks.take k))
        rw [ix_miss h (p := isK y) (decide_eq_false ?_)]
        rintro rfl
        obtain ⟨hil, hyi⟩ := List.getElem?_eq_some_iff.1 hy
        exact hix ((List.Nodup.idxOf_getElem (uq_nodup _) i hil) ▸ (by rw [hyi]))
/-- The keys may be exchanged for others that tell them apart. -/
theorem uq_map {ι : Type} [DecidableEq ι] {f : κ → ι} (hf : ∀ a b, f a = f b → a = b) (ks : List κ) : uq (ks.map f) = (uq ks).map f := by
  have F : ∀ (ks s : List κ), (ks.map f).foldl uqS (s.map f) = (ks.foldl uqS s).map f := by
    intro ks
    induction ks with
    | nil => intro s; rfl
    | cons y r ih =>
      intro s
      rw [List.map_cons, List.foldl_cons, List.foldl_cons, ← ih]
      congr 1
      unfold uqS
      by_cases h : y ∈ s
      · rw [if_pos h, if_pos (List.mem_map.2 ⟨y, h, rfl⟩)]
      · rw [if_neg h, if_neg (fun hm => by obtain ⟨z, hz, e⟩ := List.mem_map.1 hm; exact h (hf _ _ e ▸ hz)), List.map_append]
        rfl
  exact F ks []
theorem ixs_map {α β : Type} {f : α → β} {p : β → Bool} {q : α → Bool} (h : ∀ a, p (f a) = q a) (l : List α) : ixs p (l.map f) = ixs q l := by
  have F : ∀ (l : List α) (k : Nat), ixF p k (l.map f) = ixF q k l := by
    intro l
    induction l with
    | nil => intro k; rfl
    | cons y r ih =>
      intro k
      rw [List.map_cons]
      unfold ixF
      rw [h, ih]
  exact F l 0
theorem grp_map {ι : Type} [DecidableEq ι] {f : κ → ι} (hf : ∀ a b, f a = f b → a = b) (ks : List κ) : grp (ks.map f) = grp ks := by
  unfold grp
  rw [uq_map hf, List.map_map]
  refine List.map_congr_left fun x _ => ?_
  refine ixs_map (fun a => ?_) ks
  unfold isK
  rw [Bool.eq_iff_iff, decide_eq_true_iff, decide_eq_true_iff]
  exact ⟨fun e => hf _ _ e, fun e => by rw [e]⟩
/-- The group of the first trip with a key, or nothing. -/
def rGrp (ks : List κ) (i : Nat) : List Int := match ks[i]? with | some x => if x ∈ ks.take i then [] else ixs (isK x) ks | none => []
theorem rg_old {ks : List κ} {i : Nat} {x : κ} (h : ks[i]? = some x) (hm : x ∈ ks.take i) : rGrp ks i = [] := by unfold rGrp; rw [h]; show (if _ then _ else _) = _; rw [if_pos hm]
theorem rg_new {ks : List κ} {i : Nat} {x : κ} (h : ks[i]? = some x) (hm : x ∉ ks.take i) : rGrp ks i = ixs (isK x) ks := by unfold rGrp; rw [h]; show (if _ then _ else _) = _; rw [if_neg hm]
theorem ix_pos {α : Type} {p : α → Bool} {l : List α} {i : Nat} {x : α} (h : l[i]? = some x) (hp : p x = true) : 0 < (ixs p l).length := by
  have F : ∀ (l : List α) (k i : Nat), l[i]? = some x → 0 < (ixF p k l).length := by
    intro l
    induction l with
    | nil => intro k i h; simp at h
    | cons y r ih =>
      intro k i h
      unfold ixF
      cases i with
      | zero =>
        simp at h
        rw [h, if_pos hp]
        simp
      | succ i =>
        rw [List.getElem?_cons_succ] at h
        have := ih (k + 1) i h
        split
        · simp
        · exact this
  exact F l 0 i h
/-- A group comes at the number of different keys ahead of its first index. -/
theorem rg_at {ks : List κ} {i : Nat} {x : κ} (h : ks[i]? = some x) (hm : x ∉ ks.take i) : (grp ks)[(uq (ks.take i)).length]? = some (rGrp ks i) ∧ 0 < (rGrp ks i).length ∧ (uq (ks.take (i + 1))).length = (uq (ks.take i)).length + 1 := by
  rw [rg_new h hm]
  have hn : x ∉ uq (ks.take i) := fun hx => hm (uq_mem.1 hx)
  have e : uq (ks.take (i + 1)) = uq (ks.take i) ++ [x] := (grp_new h hn).1
  obtain ⟨t, ht⟩ := uq_pre ks (i + 1)
  refine ⟨?_, ix_pos h (decide_eq_true rfl), by rw [e, List.length_append]; rfl⟩
  unfold grp
  rw [ht, e, List.getElem?_map, List.append_assoc, List.getElem?_append_right (Nat.le_refl _), Nat.sub_self]
  rfl
theorem rg_skip {ks : List κ} {i : Nat} {x : κ} (h : ks[i]? = some x) (hm : x ∈ ks.take i) : (uq (ks.take (i + 1))).length = (uq (ks.take i)).length := by rw [(grp_old h (uq_mem.2 hm)).1]
theorem uq_done {ks : List κ} {i : Nat} (h : ks.length ≤ i) : (uq (ks.take i)).length = (grp ks).length := by rw [List.take_of_length_le h, grp_len]
theorem uq_none : (uq ([] : List κ)).length = 0 := rfl
/-! The lengths of the groups -/
/-- How many indices the first so many groups hold. -/
def sumG (gs : List (List Int)) (k : Nat) : Nat := ((gs.take k).map List.length).sum
theorem sumG_next {gs : List (List Int)} {k : Nat} {g : List Int} (h : gs[k]? = some g) : sumG gs (k + 1) = sumG gs k + g.length := by
  unfold sumG
  rw [take_at gs k g h, List.map_append, List.sum_append]
  simp
theorem sum_set : ∀ (l : List Nat) (i a b : Nat), l[i]? = some a → (l.set i b).sum + a = l.sum + b
  | [], _, _, _, h => by simp at h
  | x :: r, 0, a, b, h => by
    simp at h
    subst h
    simp
    omega
  | x :: r, i + 1, a, b, h => by
    rw [List.getElem?_cons_succ] at h
    have := sum_set r i a b h
    simp
    omega
theorem sum_all (ks : List κ) : ((grp ks).map List.length).sum = ks.length := by
  have F : ∀ k, k ≤ ks.length → ((grp (ks.take k)).map List.length).sum = k := by
    intro k
    induction k with
    | zero => intro _; rfl
    | succ k ih =>
      intro hk
      have ih := ih (by omega)
      obtain ⟨x, hx⟩ := at_lt (show k < ks.length by omega)
      by_cases hm : x ∈ uq (ks.take k)
      · obtain ⟨_, h1, h2⟩ := grp_old hx hm
        rw [h2, List.map_set]
        have := sum_set ((grp (ks.take k)).map List.length) _ (ixs (isK x) (ks.take k)).length (ixs (isK x) (ks.take k) ++ [(k : Int)]).length (by rw [List.getElem?_map, h1]; rfl)
        rw [ih, List.length_append] at this
        simp at this ⊢
        omega
      · rw [(grp_new hx hm).2, List.map_append, List.sum_append, ih]
        rfl
  have := F ks.length (Nat.le_refl _)
  rw [List.take_length] at this
  exact this
theorem sumG_all (ks : List κ) {k : Nat} (h : (grp ks).length ≤ k) : sumG (grp ks) k = ks.length := by
  unfold sumG
  rw [List.take_of_length_le h]
  exact sum_all ks
theorem sumG_le {gs : List (List Int)} {k : Nat} : sumG gs k ≤ (gs.map List.length).sum := by
  unfold sumG
  conv => rhs; rw [← List.take_append_drop k gs, List.map_append, List.sum_append]
  omega
/-- Where an index stands. -/
theorem ix_mem {α : Type} {p : α → Bool} {l : List α} {i : Nat} {x : α} (h : l[i]? = some x) : (i : Int) ∈ ixs p l ↔ p x = true := by
  have F : ∀ (l : List α) (k i : Nat), l[i]? = some x → (((k + i : Nat) : Int) ∈ ixF p k l ↔ p x = true) := by
    intro l
    induction l with
    | nil => intro k i h; simp at h
    | cons y r ih =>
      intro k i h
      have low : ∀ (r : List α) (k : Nat) (z : Int), z ∈ ixF p k r → (k : Int) ≤ z := by
        intro r
        induction r with
        | nil => intro k z h; simp [ixF] at h
        | cons y r ih2 =>
          intro k z h
          unfold ixF at h
          split at h
          · rcases List.mem_cons.1 h with rfl | h
            · omega
            · have := ih2 (k + 1) z h; omega
          · have := ih2 (k + 1) z h; omega
      cases i with
      | zero =>
        simp at h
        subst h
        unfold ixF
        rw [Nat.add_zero]
        split
        · next hp => simp [hp]
        · next hp =>
          constructor
          · intro hm
            have := low r (k + 1) _ hm
            omega
          · intro h; exact absurd h hp
      | succ i =>
        rw [List.getElem?_cons_succ] at h
        have := ih (k + 1) i h
        rw [show k + 1 + i = k + (i + 1) by omega] at this
        unfold ixF
        split
        · rw [List.mem_cons]
          constructor
          · rintro (h1 | h1)
            · omega
            · exact this.1 h1
          · exact fun h1 => .inr (this.2 h1)
        · exact this
  have := F l 0 i h
  rw [Nat.zero_add] at this
  exact this
theorem grp_has {ks : List κ} {a i : Nat} {x : κ} {g : List Int} (h : ks[a]? = some x) (hg : (grp ks)[i]? = some g) : (a : Int) ∈ g ↔ i = (uq ks).idxOf x := by
  unfold grp at hg
  rw [List.getElem?_map] at hg
  obtain ⟨y, hy, rfl⟩ := Option.map_eq_some_iff.1 hg
  rw [ix_mem h]
  unfold isK
  rw [decide_eq_true_iff]
  obtain ⟨hil, hyi⟩ := List.getElem?_eq_some_iff.1 hy
  constructor
  · rintro rfl
    rw [← hyi]
    exact (List.Nodup.idxOf_getElem (uq_nodup _) i hil).symm
  · intro e
    have hx : x ∈ uq ks := uq_mem.2 (List.mem_iff_getElem?.2 ⟨a, h⟩)
    have := List.getElem_idxOf (List.idxOf_lt_length_iff.2 hx)
    rw [← this, ← hyi]
    simp only [e]
theorem grp_lt {ks : List κ} {a : Nat} {x : κ} (h : ks[a]? = some x) : (uq ks).idxOf x < (grp ks).length := by
  rw [grp_len]
  exact List.idxOf_lt_length_iff.2 (uq_mem.2 (List.mem_iff_getElem?.2 ⟨a, h⟩))
theorem grp_eq {ks : List κ} {a b : Nat} {x y : κ} (h : ks[a]? = some x) (k : ks[b]? = some y) : (uq ks).idxOf x = (uq ks).idxOf y ↔ x = y := by
  constructor
  · intro e
    have hx : x ∈ uq ks := uq_mem.2 (List.mem_iff_getElem?.2 ⟨a, h⟩)
    have hy : y ∈ uq ks := uq_mem.2 (List.mem_iff_getElem?.2 ⟨b, k⟩)
    rw [← List.getElem_idxOf (List.idxOf_lt_length_iff.2 hx), ← List.getElem_idxOf (List.idxOf_lt_length_iff.2 hy)]
    simp only [e]
  · rintro rfl; rfl
end
/-- Where the group with an index has been seen: -1 so far. -/
def whG (p i : Nat) : Int := if p < i then (p : Int) else -1
theorem wh_zero (p : Nat) : whG p 0 = -1 := rfl
/-- While the elements of group i are looked at. -/
def whE (p i : Nat) (z : Int) (g : List Int) (k : Nat) : Int := if z ∈ g.take k then (i : Int) else whG p i
theorem whE_zero (p i : Nat) (z : Int) (g : List Int) : whE p i z g 0 = whG p i := by unfold whE; simp
theorem whE_hit {p i : Nat} {z : Int} {g : List Int} {k : Nat} {y : Int} (h : g[k]? = some y) (e : y = z) : whE p i z g (k + 1) = (i : Int) := by
  unfold whE
  rw [take_at g k y h, if_pos (by rw [e]; simp)]
theorem whE_miss {p i : Nat} {z : Int} {g : List Int} {k : Nat} {y : Int} (h : g[k]? = some y) (e : y ≠ z) : whE p i z g (k + 1) = whE p i z g k := by
  have : z ∈ g.take k ++ [y] ↔ z ∈ g.take k := by
    rw [List.mem_append, List.mem_singleton]
    exact ⟨fun h => h.resolve_right (Ne.symm e), .inl⟩
  unfold whE
  rw [take_at g k y h]
  simp only [this]
theorem whE_end {p i : Nat} {z : Int} {g : List Int} {k : Nat} (hk : g.length ≤ k) (h : z ∈ g ↔ i = p) : whE p i z g k = whG p (i + 1) := by
  unfold whE whG
  rw [List.take_of_length_le hk]
  by_cases e : i = p
  · subst e
    rw [if_pos (h.2 rfl), if_pos (by omega)]
  · rw [if_neg (fun hm => e (h.1 hm))]
    by_cases hl : p < i
    · rw [if_pos hl, if_pos (by omega)]
    · rw [if_neg hl, if_neg (by omega)]
theorem wh_all {p n : Nat} (h : p < n) : whG p n = (p : Int) := by unfold whG; rw [if_pos h]
/-! ### One with a property, a later one with another -/
section
variable {α : Type} {p q : α → Bool}
/-- Whether one from here on has q behind one that has p. -/
def twF (p q : α → Bool) (f : Bool) : List α → Bool
  | [] => false
  | x :: r => (f && q x) || twF p q (f || p x) r
def twT (p q : α → Bool) (l : List α) : Bool := twF p q false l
theorem tw_start (l : List α) : twT p q l = twF p q false (l.drop 0) := rfl
theorem tw_hit {R f : Bool} {l : List α} {k : Nat} {x : α} (hr : R = twF p q f (l.drop k)) (h : l[k]? = some x) (hf : f = true) (hq : q x = true) : R = true := by
  rw [hr, drop_at l k x h, hf]
  unfold twF
  rw [hq]
  rfl
theorem tw_next {R f g : Bool} {l : List α} {k : Nat} {x : α} (hr : R = twF p q f (l.drop k)) (h : l[k]? = some x) (hq : (f && q x) = false) (hg : g = (f || p x)) : R = twF p q g (l.drop (k + 1)) := by
  rw [hr, drop_at l k x h, hg]
  conv => lhs; unfold twF
  rw [hq, Bool.false_or]
theorem tw_end {R f : Bool} {l : List α} {k : Nat} (hr : R = twF p q f (l.drop k)) (h : l.length ≤ k) : R = false := by
  rw [hr, List.drop_of_length_le h]
  rfl
theorem twF_iff : ∀ (l : List α) (f : Bool), twF p q f l = true ↔ ∃ (k : Nat) (y : α), l[k]? = some y ∧ q y = true ∧ (f = true ∨ ∃ (i : Nat) (x : α), i < k ∧ l[i]? = some x ∧ p x = true)
  | [], f => by
    constructor
    · intro h; cases h
    · rintro ⟨k, y, h, _⟩; simp at h
  | z :: r, f => by
    unfold twF
    rw [Bool.or_eq_true, twF_iff r]
    constructor
    · rintro (h | ⟨k, y, h1, h2, h3⟩)
      · rw [Bool.and_eq_true] at h
        exact ⟨0, z, rfl, h.2, .inl h.1⟩
      · refine ⟨k + 1, y, h1, h2, ?_⟩
        rcases h3 with h3 | ⟨i, x, hi, hx, hp⟩
        · rw [Bool.or_eq_true] at h3
          rcases h3 with h3 | h3
          · exact .inl h3
          · exact .inr ⟨0, z, by omega, rfl, h3⟩
        · exact .inr ⟨i + 1, x, by omega, hx, hp⟩
    · rintro ⟨k, y, h1, h2, h3⟩
      cases k with
      | zero =>
        simp at h1
        subst h1
        rcases h3 with h3 | ⟨i, x, hi, _⟩
        · left; rw [h3, h2]; rfl
        · omega
      | succ k =>
        rw [List.getElem?_cons_succ] at h1
        refine .inr ⟨k, y, h1, h2, ?_⟩
        rcases h3 with h3 | ⟨i, x, hi, hx, hp⟩
        · left; rw [h3]; rfl
        · cases i with
          | zero =>
            simp at hx
            subst hx
            left; rw [hp, Bool.or_true]
          | succ i =>
            rw [List.getElem?_cons_succ] at hx
            exact .inr ⟨i, x, by omega, hx, hp⟩
theorem tw_iff {l : List α} : twT p q l = true ↔ ∃ (i k : Nat) (x y : α), i < k ∧ l[i]? = some x ∧ l[k]? = some y ∧ p x = true ∧ q y = true := by
  unfold twT
  rw [twF_iff]
  constructor
  · rintro ⟨k, y, h1, h2, h3⟩
    rcases h3 with h3 | ⟨i, x, hi, hx, hp⟩
    · cases h3
    · exact ⟨i, k, x, y, hi, hx, h1, hp, h2⟩
  · rintro ⟨i, k, x, y, hi, hx, h1, hp, h2⟩
    exact ⟨k, y, h1, h2, .inr ⟨i, x, hi, hx, hp⟩⟩
theorem tw_yes {l : List α} {i k : Nat} {x y : α} (hi : i < k) (hx : l[i]? = some x) (hy : l[k]? = some y) (hp : p x = true) (hq : q y = true) : twT p q l = true := tw_iff.2 ⟨i, k, x, y, hi, hx, hy, hp, hq⟩
/-- No pair so far whose first one stands ahead of i. -/
def NoP (p q : α → Bool) (l : List α) (i : Nat) : Prop := ∀ (i' k : Nat) (x y : α), i' < i → i' < k → l[i']? = some x → l[k]? = some y → p x = true → q y = false
/-- No pair of i and one ahead of k. -/
def NoQ (p q : α → Bool) (l : List α) (i k : Nat) : Prop := ∀ (k' : Nat) (x y : α), i < k' → k' < k → l[i]? = some x → l[k']? = some y → p x = true → q y = false
theorem np_zero (l : List α) : NoP p q l 0 := fun i' _ _ _ h => by omega
theorem nq_zero (l : List α) (i : Nat) : NoQ p q l i (i + 1) := fun k' _ _ h1 h2 => by omega
theorem nq_next {l : List α} {i k : Nat} {x y : α} (h : NoQ p q l i k) (hx : l[i]? = some x) (hy : l[k]? = some y) (hn : p x = true → q y = false) : NoQ p q l i (k + 1) := by
  intro k' x' y' h1 h2 hx' hy' hp
  by_cases e : k' = k
  · subst e
    rw [hx] at hx'
    rw [hy] at hy'
    cases hx'
    cases hy'
    exact hn hp
  · exact h k' x' y' h1 (by omega) hx' hy' hp
theorem np_next {l : List α} {i k : Nat} (h : NoP p q l i) (hq : NoQ p q l i k) (hk : l.length ≤ k) : NoP p q l (i + 1) := by
  intro i' k' x y h1 h2 hx hy hp
  by_cases e : i' = i
  · subst e
    exact hq k' x y h2 (by have := (List.getElem?_eq_some_iff.1 hy).1; omega) hx hy hp
  · exact h i' k' x y (by omega) h2 hx hy hp
theorem np_end {l : List α} {i : Nat} (h : NoP p q l i) (hi : l.length ≤ i) : twT p q l = false := by
  rw [Bool.eq_false_iff]
  intro ht
  obtain ⟨i', k, x, y, h1, hx, hy, hp, hq⟩ := tw_iff.1 ht
  have := h i' k x y (by have := (List.getElem?_eq_some_iff.1 hx).1; omega) h1 hx hy hp
  rw [hq] at this
  cases this
theorem tw_map {β : Type} {p' q' : β → Bool} {f : α → β} (hp : ∀ x, p x = true → p' (f x) = true) (hq : ∀ x, q x = true → q' (f x) = true) {l : List α} (h : twT p q l = true) : twT p' q' (l.map f) = true := by
  obtain ⟨i, k, x, y, h1, hx, hy, h2, h3⟩ := tw_iff.1 h
  exact tw_yes h1 (by rw [List.getElem?_map, hx]; rfl) (by rw [List.getElem?_map, hy]; rfl) (hp x h2) (hq y h3)
theorem tw_no {l : List α} (h : (∀ x ∈ l, p x = false) ∨ (∀ x ∈ l, q x = false)) : twT p q l = false := by
  rw [Bool.eq_false_iff]
  intro ht
  obtain ⟨i, k, x, y, _, hx, hy, hp, hq⟩ := tw_iff.1 ht
  rcases h with h | h
  · rw [h x (List.mem_iff_getElem?.2 ⟨i, hx⟩)] at hp; cases hp
  · rw [h y (List.mem_iff_getElem?.2 ⟨k, hy⟩)] at hq; cases hq
end
/-! ### Connections -/
def brdC (s : Int) (x : Cl) : Bool := x.2.2.2.1 && decide (x.1 = s)
def altC (s : Int) (x : Cl) : Bool := x.2.2.2.2 && decide (x.1 = s)
/-- Whether the calls connect two stops. -/
def conT (a b : Int) (l : List Cl) : Bool := twT (brdC a) (altC b) l
def isS (s x : Int) : Bool := decide (x = s)
/-- Whether a list has two stops, one before the other. -/
def pasT (a b : Int) (l : List Int) : Bool := twT (isS a) (isS b) l
theorem con_pas {a b : Int} {l : List Cl} (h : conT a b l = true) : pasT a b (stpC l) = true := by
  refine tw_map (fun x hx => ?_) (fun x hx => ?_) h
  · unfold brdC at hx
    rw [Bool.and_eq_true] at hx
    exact hx.2
  · unfold altC at hx
    rw [Bool.and_eq_true] at hx
    exact hx.2
/-! ### Events -/
/-- The times of the events. -/
def evC (l : List Cl) : List Int := l.flatMap fun x => [x.2.1, x.2.2.1]
theorem evC_len (l : List Cl) : (evC l).length = 2 * l.length := by
  unfold evC
  induction l with
  | nil => rfl
  | cons x r ih => rw [List.flatMap_cons, List.length_append, ih, List.length_cons]; simp; omega
theorem evC_snoc {l : List Cl} {k : Nat} {x : Cl} (h : l[k]? = some x) : evC (l.take (k + 1)) = evC (l.take k) ++ [x.2.1, x.2.2.1] := by
  unfold evC
  rw [take_at l k x h, List.flatMap_append]
  simp
theorem evC_at : ∀ {l : List Cl} {k : Nat} {x : Cl}, l[k]? = some x → (evC l)[2 * k]? = some x.2.1 ∧ (evC l)[2 * k + 1]? = some x.2.2.1
  | [], _, _, h => by simp at h
  | y :: r, 0, x, h => by
    simp at h
    subst h
    exact ⟨rfl, rfl⟩
  | y :: r, k + 1, x, h => by
    rw [List.getElem?_cons_succ] at h
    have := evC_at h
    have e : evC (y :: r) = y.2.1 :: y.2.2.1 :: evC r := rfl
    rw [e, show 2 * (k + 1) = 2 * k + 1 + 1 by omega, List.getElem?_cons_succ, List.getElem?_cons_succ, List.getElem?_cons_succ, List.getElem?_cons_succ]
    exact this
/-- The event with an index, out of the calls. -/
theorem ev_even {l : List Cl} {i : Nat} {x : Cl} (h : l[i / 2]? = some x) (hi : i % 2 = 0) : (evC l)[i]? = some x.2.1 := by
  have := (evC_at h).1
  rw [show 2 * (i / 2) = i by omega] at this
  exact this
theorem ev_odd {l : List Cl} {i : Nat} {x : Cl} (h : l[i / 2]? = some x) (hi : i % 2 = 1) : (evC l)[i]? = some x.2.2.1 := by
  have := (evC_at h).2
  rw [show 2 * (i / 2) + 1 = i by omega] at this
  exact this
def latE (z : Int × Int) : Bool := decide (z.2 < z.1)
def earE (z : Int × Int) : Bool := decide (z.1 < z.2)
/-- The events of both. -/
def evZ (a b : List Cl) : List (Int × Int) := (evC a).zip (evC b)
theorem evZ_len {a b : List Cl} (h : a.length = b.length) : (evZ a b).length = 2 * a.length := by unfold evZ; rw [List.length_zip, evC_len, evC_len, h, Nat.min_self]
theorem evZ_at {a b : List Cl} {i : Nat} {x y : Int} (hx : (evC a)[i]? = some x) (hy : (evC b)[i]? = some y) : (evZ a b)[i]? = some (x, y) := List.getElem?_zip_eq_some.2 ⟨hx, hy⟩
/-- Whether a overtakes b. -/
def ovT (a b : List Cl) : Bool := sameP a b && twT latE earE (evZ a b)
theorem ov_no {a b : List Cl} (h : sameP a b = false) : ovT a b = false := by unfold ovT; rw [h]; rfl
theorem ov_yes {a b : List Cl} (h : sameP a b = true) : ovT a b = twT latE earE (evZ a b) := by unfold ovT; rw [h]; rfl
theorem ev_mem {a b : List Cl} {z : Int × Int} (h : z ∈ evZ a b) : ∃ i : Nat, (evC a)[i]? = some z.1 ∧ (evC b)[i]? = some z.2 := by
  obtain ⟨i, hi⟩ := List.mem_iff_getElem?.1 h
  exact ⟨i, List.getElem?_zip_eq_some.1 hi⟩
theorem ov_self (a : List Cl) : ovT a a = false := by
  rw [ov_yes (same_self a)]
  refine tw_no (.inl fun z hz => ?_)
  obtain ⟨i, h1, h2⟩ := ev_mem hz
  rw [h1] at h2
  exact decide_eq_false (by rw [Option.some.inj h2]; omega)
/-- Later by the same number of seconds. -/
def mvX (s : Int) (x : Cl) : Cl := (x.1, x.2.1 + s, x.2.2.1 + s, x.2.2.2.1, x.2.2.2.2)
def mvC (s : Int) (l : List Cl) : List Cl := l.map (mvX s)
theorem mv_snoc {s : Int} {l : List Cl} {k : Nat} {x : Cl} (h : l[k]? = some x) : mvC s (l.take (k + 1)) = mvC s (l.take k) ++ [mvX s x] := by
  unfold mvC
  rw [take_at l k x h, List.map_append]
  rfl
theorem mv_len (s : Int) (l : List Cl) : (mvC s l).length = l.length := List.length_map _
theorem mv_same (s : Int) (l : List Cl) : sameP l (mvC s l) = true := decide_eq_true (by
  unfold patV mvC
  rw [List.map_map]
  rfl)
theorem ev_mv (s : Int) : ∀ l : List Cl, evC (mvC s l) = (evC l).map (· + s)
  | [] => rfl
  | x :: r => by
    have ih := ev_mv s r
    have e : evC (mvC s (x :: r)) = (x.2.1 + s) :: (x.2.2.1 + s) :: evC (mvC s r) := rfl
    have e2 : evC (x :: r) = x.2.1 :: x.2.2.1 :: evC r := rfl
    rw [e, ih, e2]
    rfl
theorem mv_ov (s : Int) (l : List Cl) : ovT l (mvC s l) = false ∧ ovT (mvC s l) l = false := by
  have F : ∀ (i : Nat) (x y : Int), (evC l)[i]? = some x → (evC (mvC s l))[i]? = some y → y = x + s := by
    intro i x y hx hy
    rw [ev_mv, List.getElem?_map, hx] at hy
    exact (Option.some.inj hy).symm
  refine ⟨?_, ?_⟩
  · rw [ov_yes (mv_same s l)]
    refine tw_no ?_
    by_cases h : 0 ≤ s
    · left
      intro z hz
      obtain ⟨i, h1, h2⟩ := ev_mem hz
      have := F i _ _ h1 h2
      exact decide_eq_false (by omega)
    · right
      intro z hz
      obtain ⟨i, h1, h2⟩ := ev_mem hz
      have := F i _ _ h1 h2
      exact decide_eq_false (by omega)
  · rw [ov_yes (by rw [same_comm]; exact mv_same s l)]
    refine tw_no ?_
    by_cases h : 0 ≤ s
    · right
      intro z hz
      obtain ⟨i, h1, h2⟩ := ev_mem hz
      have := F i _ _ h2 h1
      exact decide_eq_false (by omega)
    · left
      intro z hz
      obtain ⟨i, h1, h2⟩ := ev_mem hz
      have := F i _ _ h2 h1
      exact decide_eq_false (by omega)
end Go.Proofs.YtfbobfejnbhjbaaDoor
