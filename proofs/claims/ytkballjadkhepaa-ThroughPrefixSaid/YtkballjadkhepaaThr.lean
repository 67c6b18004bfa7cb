/-
  Plain facts about through services and guaranteed changes: the next trip, chains and why they end, the meeting of two lists of calls, the first through service or guaranteed change that is not valid, what follows for accepted ones: no program. Condition: none beyond each theorem's own hypotheses.
-/
import Derived.Test.YtkballjadkhepaaFrq
namespace Go.Proofs.Ytkballjadkhepaa
open Go Go.RowKit

/-- A through service: from, to. -/
abbrev Th := Int × Int
/-- A guaranteed change: from, to, stop. -/
abbrev Gt := Int × Int × Int
/-- A trip: its calendar and its calls. -/
abbrev Tc := Int × List Cl

theorem nodup_lenG {α : Type} [DecidableEq α] : ∀ (P R : List α), P.Nodup → (∀ x ∈ P, x ∈ R) → P.length ≤ R.length
  | [], _, _, _ => Nat.zero_le _
  | x :: r, R, hn, hs => by
    obtain ⟨h1, h2⟩ := List.nodup_cons.1 hn
    have hx := hs x List.mem_cons_self
    have ih := nodup_lenG r (R.erase x) h2 (fun y hy => by
      have hne : y ≠ x := fun e => h1 (e ▸ hy)
      exact (List.mem_erase_of_ne hne).2 (hs y (List.mem_cons_of_mem _ hy)))
    rw [List.length_erase_of_mem hx] at ih
    have := List.length_pos_of_mem hx
    rw [List.length_cons]
    omega

/-! ### The next trip -/
/-- The To of the first through service whose From is this trip. -/
def nxT (t : Int) : List Th → Option Int
  | [] => none
  | x :: r => if x.1 = t then some x.2 else nxT t r
/-- What Next answers. -/
def nxV (t : Int) (l : List Th) : Int := (nxT t l).getD 0
def nxB (t : Int) (l : List Th) : Bool := (nxT t l).isSome
section
variable {t : Int} {l : List Th} {q : Option Int} {k : Nat} {x : Th}
theorem nx_hit (hr : q = nxT t (l.drop k)) (h : l[k]? = some x) (ht : x.1 = t) : q = some x.2 := by
  rw [hr, drop_at l k x h]
  unfold nxT
  rw [if_pos ht]
theorem nx_miss (hr : q = nxT t (l.drop k)) (h : l[k]? = some x) (ht : x.1 ≠ t) : q = nxT t (l.drop (k + 1)) := by
  rw [hr, drop_at l k x h]
  conv => lhs; unfold nxT
  rw [if_neg ht]
theorem nx_end (hr : q = nxT t (l.drop k)) (h : l.length ≤ k) : q = none := by
  rw [hr, List.drop_of_length_le h]
  rfl
end
theorem nx_mem {t : Int} : ∀ {l : List Th} {y : Int}, nxT t l = some y → (t, y) ∈ l
  | [], y, h => by cases h
  | x :: r, y, h => by
    unfold nxT at h
    split at h
    · next hx =>
      have := Option.some.inj h
      rw [show (t, y) = x from Prod.ext hx.symm this.symm]
      exact List.mem_cons_self
    · exact List.mem_cons_of_mem _ (nx_mem h)
theorem nx_none {t : Int} : ∀ {l : List Th}, t ∉ l.map Prod.fst → nxT t l = none
  | [], _ => rfl
  | x :: r, h => by
    rw [List.map_cons, List.mem_cons, not_or] at h
    unfold nxT
    rw [if_neg (fun e => h.1 e.symm)]
    exact nx_none h.2
theorem nx_app {t : Int} : ∀ (l m : List Th), nxT t (l ++ m) = (nxT t l).or (nxT t m)
  | [], m => rfl
  | x :: r, m => by
    show (if x.1 = t then some x.2 else nxT t (r ++ m)) = (if x.1 = t then some x.2 else nxT t r).or (nxT t m)
    split
    · rfl
    · exact nx_app r m
theorem nx_snd {t y : Int} {l : List Th} (h : nxT t l = some y) : y ∈ l.map Prod.snd := List.mem_map.2 ⟨_, nx_mem h, rfl⟩

/-! ### Chains -/
/-- A chain followed for so many trips more. -/
def chF (l : List Th) : Nat → List Int → Int → List Int
  | 0, out, _ => out
  | n + 1, out, t => match nxT t l with
    | none => out
    | some y => if y ∈ out then out else chF l n (out ++ [y]) y
/-- The chain of a trip. -/
def chT (l : List Th) (t : Int) : List Int := chF l l.length [t] t
section
variable {l : List Th} {n : Nat} {out : List Int} {t y : Int}
theorem ch_none (h : nxT t l = none) : chF l n out t = out := by
  cases n with
  | zero => rfl
  | succ n => unfold chF; rw [h]
theorem ch_used (h : nxT t l = some y) (hy : y ∈ out) : chF l n out t = out := by
  cases n with
  | zero => rfl
  | succ n => unfold chF; rw [h]; exact if_pos hy
theorem ch_step (h : nxT t l = some y) (hy : y ∉ out) : chF l (n + 1) out t = chF l n (out ++ [y]) y := by
  conv => lhs; unfold chF
  rw [h]
  exact if_neg hy
end
/-- A chain that is being followed: out is what there is of it, t its last trip, so many more may come, q is the whole. -/
structure ChS (l : List Th) (q out : List Int) (t : Int) (n : Nat) : Prop where
  is : q = chF l n out t
  last : out[out.length - 1]? = some t
  nod : out.Nodup
  sub : ∀ z ∈ out.tail, z ∈ l.map Prod.snd
  len : n + out.length = l.length + 1
  pos : 0 < out.length
theorem ChS.start (l : List Th) (t : Int) : ChS l (chT l t) [t] t l.length := ⟨rfl, rfl, by simp, fun z hz => by simp at hz, rfl, Nat.zero_lt_one⟩
section
variable {l : List Th} {q out : List Int} {t y : Int} {n : Nat}
theorem ChS.stop (h : ChS l q out t n) (hn : nxT t l = none) : q = out := h.is.trans (ch_none hn)
theorem ChS.used (h : ChS l q out t n) (hn : nxT t l = some y) (hy : y ∈ out) : q = out := h.is.trans (ch_used hn hy)
theorem ChS.full (h : ChS l q out t 0) : q = out := h.is
/-- Where all have come, the next one is among them. -/
theorem ChS.room (h : ChS l q out t n) (hn : nxT t l = some y) (hy : y ∉ out) : 0 < n := by
  obtain ⟨a, r, rfl⟩ : ∃ a r, out = a :: r := by
    cases out with
    | nil => exact absurd h.pos (Nat.lt_irrefl 0)
    | cons a r => exact ⟨a, r, rfl⟩
  have h1 : (r ++ [y]).Nodup := by
    rw [List.nodup_append]
    refine ⟨(List.nodup_cons.1 h.nod).2, by simp, fun x hx z hz => ?_⟩
    rw [List.mem_singleton.1 hz]
    rintro rfl
    exact hy (List.mem_cons_of_mem _ hx)
  have h2 := nodup_lenG (r ++ [y]) (l.map Prod.snd) h1 (fun z hz => by
    rcases List.mem_append.1 hz with hz | hz
    · exact h.sub z hz
    · rw [List.mem_singleton.1 hz]; exact nx_snd hn)
  have h3 := h.len
  rw [List.length_append, List.length_map, List.length_singleton] at h2
  rw [List.length_cons] at h3
  omega
theorem ChS.step (h : ChS l q out t n) (hn : nxT t l = some y) (hy : y ∉ out) : ChS l q (out ++ [y]) y (n - 1) := by
  have hp := h.room hn hy
  obtain ⟨m, rfl⟩ : ∃ m, n = m + 1 := ⟨n - 1, by omega⟩
  have hl := h.pos
  refine ⟨h.is.trans (ch_step hn hy), by simp, ?_, fun z hz => ?_, ?_, by simp⟩
  · rw [List.nodup_append]
    refine ⟨h.nod, by simp, fun x hx z hz => ?_⟩
    rw [List.mem_singleton.1 hz]
    rintro rfl
    exact hy hx
  · cases out with
    | nil => exact absurd h.pos (Nat.lt_irrefl 0)
    | cons a r =>
      rw [List.cons_append, List.tail_cons] at hz
      rcases List.mem_append.1 hz with hz | hz
      · exact h.sub z hz
      · rw [List.mem_singleton.1 hz]; exact nx_snd hn
  · have := h.len
    rw [List.length_append, List.length_singleton]
    omega
theorem ChS.le (h : ChS l q out t n) : out.length ≤ l.length + 1 := by have := h.len; omega
end
/-- What is known of a whole chain. -/
structure ChOk (l : List Th) (t : Int) (c : List Int) : Prop where
  first : c[0]? = some t
  nod : c.Nodup
  link : ∀ (j : Nat) (x y : Int), c[j]? = some x → c[j + 1]? = some y → nxT x l = some y
  last : ∀ x y, c[c.length - 1]? = some x → nxT x l = some y → y ∈ c
  len : 0 < c.length ∧ c.length ≤ l.length + 1
theorem chF_ok (l : List Th) (t0 : Int) (q : List Int) : ∀ (n : Nat) (out : List Int) (t : Int), ChS l q out t n → out[0]? = some t0 → (∀ (j : Nat) (x y : Int), out[j]? = some x → out[j + 1]? = some y → nxT x l = some y) → ChOk l t0 q
  | n, out, t, h, h0, hl => by
    cases hn : nxT t l with
    | none =>
      obtain rfl := h.stop hn
      refine ⟨h0, h.nod, hl, fun x y hx hy => ?_, h.pos, h.le⟩
      rw [h.last] at hx
      obtain rfl := Option.some.inj hx
      rw [hn] at hy
      cases hy
    | some z =>
      by_cases hz : z ∈ out
      · obtain rfl := h.used hn hz
        refine ⟨h0, h.nod, hl, fun x y hx hy => ?_, h.pos, h.le⟩
        rw [h.last] at hx
        obtain rfl := Option.some.inj hx
        rw [hn] at hy
        rw [← Option.some.inj hy]
        exact hz
      · have hp := h.room hn hz
        have hs := h.step hn hz
        have hpos := h.pos
        refine chF_ok l t0 q (n - 1) _ z hs ?_ ?_
        · rw [List.getElem?_append_left hpos]; exact h0
        · intro j x y hx hy
          have hj := (List.getElem?_eq_some_iff.1 hy).1
          rw [List.length_append, List.length_singleton] at hj
          rw [List.getElem?_append_left (by omega)] at hx
          by_cases he : j + 1 < out.length
          · rw [List.getElem?_append_left he] at hy
            exact hl j x y hx hy
          · have e : j = out.length - 1 := by omega
            rw [e, h.last] at hx
            obtain rfl := Option.some.inj hx
            rw [List.getElem?_append_right (by omega), show j + 1 - out.length = 0 by omega] at hy
            obtain rfl := Option.some.inj hy
            exact hn
termination_by n => n
theorem ch_ok (l : List Th) (t : Int) : ChOk l t (chT l t) := chF_ok l t _ l.length [t] t (ChS.start l t) rfl (fun j x y _ hy => by simp at hy)
theorem ch_len (l : List Th) (t : Int) : (chT l t).length ≤ l.length + 1 := (ch_ok l t).len.2
/-- A chain holds the next of each of its trips. -/
theorem ch_closed {l : List Th} {t x y : Int} (hx : x ∈ chT l t) (hn : nxT x l = some y) : y ∈ chT l t := by
  have H := ch_ok l t
  obtain ⟨j, hj⟩ := List.mem_iff_getElem?.1 hx
  have hlt := (List.getElem?_eq_some_iff.1 hj).1
  by_cases he : j + 1 < (chT l t).length
  · obtain ⟨z, hz⟩ := at_lt he
    have := H.link j x z hj hz
    rw [hn] at this
    rw [Option.some.inj this]
    exact List.mem_iff_getElem?.2 ⟨_, hz⟩
  · refine H.last x y ?_ hn
    rw [← hj]
    congr 1
    omega

/-! ### Walks by through services -/
/-- So many steps on. -/
def itN (l : List Th) : Nat → Int → Option Int
  | 0, x => some x
  | n + 1, x => (nxT x l).bind (itN l n)
theorem it_add (l : List Th) : ∀ (m n : Nat) (x : Int), itN l (m + n) x = (itN l m x).bind (itN l n)
  | 0, n, x => by rw [Nat.zero_add]; rfl
  | m + 1, n, x => by
    rw [show m + 1 + n = (m + n) + 1 by omega]
    unfold itN
    cases h : nxT x l with
    | none => rfl
    | some y => exact it_add l m n y
theorem ch_walk {l : List Th} {t : Int} : ∀ (n : Nat) (x z : Int), x ∈ chT l t → itN l n x = some z → z ∈ chT l t
  | 0, x, z, hx, h => by rw [← Option.some.inj h]; exact hx
  | n + 1, x, z, hx, h => by
    unfold itN at h
    cases hn : nxT x l with
    | none => rw [hn] at h; cases h
    | some y =>
      rw [hn] at h
      exact ch_walk n y z (ch_closed hx hn) h
/-- No walk comes back. -/
def NoBack (l : List Th) : Prop := ∀ (x : Int) (n : Nat), 0 < n → itN l n x ≠ some x
theorem no_back_nil : NoBack [] := fun x n hn h => by
  obtain ⟨m, rfl⟩ : ∃ m, n = m + 1 := ⟨n - 1, by omega⟩
  cases h
section
variable {L : List Th} {a b : Int}
theorem nx_snoc (ha : a ∉ L.map Prod.fst) (x : Int) : nxT x (L ++ [(a, b)]) = if x = a then some b else nxT x L := by
  rw [nx_app]
  by_cases hx : x = a
  · subst hx
    rw [if_pos rfl, nx_none ha]
    show nxT x [(x, b)] = _
    unfold nxT
    exact if_pos rfl
  · rw [if_neg hx]
    have : nxT x [(a, b)] = none := by
      unfold nxT
      rw [if_neg (Ne.symm hx)]
      rfl
    rw [this, Option.or_none]
theorem it_first (ha : a ∉ L.map Prod.fst) : ∀ (n : Nat) (x : Int), itN (L ++ [(a, b)]) n x = some a → ∃ m, itN L m x = some a
  | 0, x, h => ⟨0, h⟩
  | n + 1, x, h => by
    by_cases hx : x = a
    · exact ⟨0, by rw [hx]; rfl⟩
    · unfold itN at h
      rw [nx_snoc ha, if_neg hx] at h
      cases hn : nxT x L with
      | none => rw [hn] at h; cases h
      | some y =>
        rw [hn] at h
        obtain ⟨m, hm⟩ := it_first ha n y h
        refine ⟨m + 1, ?_⟩
        unfold itN
        rw [hn]
        exact hm
theorem it_over (ha : a ∉ L.map Prod.fst) : ∀ (n : Nat) (x z : Int), itN (L ++ [(a, b)]) n x = some z → itN L n x = some z ∨ ∃ j, j < n ∧ itN (L ++ [(a, b)]) j x = some a ∧ itN (L ++ [(a, b)]) (n - j - 1) b = some z
  | 0, x, z, h => .inl h
  | n + 1, x, z, h => by
    by_cases hx : x = a
    · refine .inr ⟨0, Nat.succ_pos _, by rw [hx]; rfl, ?_⟩
      unfold itN at h
      rw [nx_snoc ha, if_pos hx] at h
      exact h
    · unfold itN at h
      rw [nx_snoc ha, if_neg hx] at h
      cases hn : nxT x L with
      | none => rw [hn] at h; cases h
      | some y =>
        rw [hn] at h
        rcases it_over ha n y z h with h1 | ⟨j, hj, h1, h2⟩
        · refine .inl ?_
          unfold itN
          rw [hn]
          exact h1
        · refine .inr ⟨j + 1, by omega, ?_, ?_⟩
          · unfold itN
            rw [nx_snoc ha, if_neg hx, hn]
            exact h1
          · rw [show n + 1 - (j + 1) - 1 = n - j - 1 by omega]
            exact h2
theorem no_back_snoc (hL : NoBack L) (ha : a ∉ L.map Prod.fst) (hc : a ∉ chT L b) : NoBack (L ++ [(a, b)]) := by
  intro x n hn h
  rcases it_over ha n x x h with h1 | ⟨j, hj, h1, h2⟩
  · exact hL x n hn h1
  · have h3 : itN (L ++ [(a, b)]) ((n - j - 1) + j) b = some a := by
      rw [it_add, h2]
      exact h1
    obtain ⟨m, hm⟩ := it_first ha _ b h3
    exact hc (ch_walk m b a (List.mem_iff_getElem?.2 ⟨0, (ch_ok L b).first⟩) hm)
end
theorem ch_it {l : List Th} {t : Int} {c : List Int} (H : ChOk l t c) : ∀ (n j : Nat) (x y : Int), c[j]? = some x → c[j + n]? = some y → itN l n x = some y
  | 0, j, x, y, hx, hy => by
    rw [Nat.add_zero, hx] at hy
    exact hy
  | n + 1, j, x, y, hx, hy => by
    obtain ⟨z, hz⟩ := at_lt (l := c) (k := j + 1) (by have := (List.getElem?_eq_some_iff.1 hy).1; omega)
    unfold itN
    rw [H.link j x z hx hz]
    exact ch_it H n (j + 1) z y hz (by rw [← hy]; congr 1; omega)
/-- Where no walk comes back, a chain ends with a trip that is not continued. -/
theorem ch_ends {l : List Th} {t x : Int} (hb : NoBack l) (h : (chT l t)[(chT l t).length - 1]? = some x) : nxT x l = none := by
  have H := ch_ok l t
  cases hn : nxT x l with
  | none => rfl
  | some y =>
    exfalso
    obtain ⟨j, hj⟩ := List.mem_iff_getElem?.1 (H.last x y h hn)
    have hlt := (List.getElem?_eq_some_iff.1 hj).1
    have h1 := ch_it H ((chT l t).length - 1 - j) j y x hj (by rw [← h]; congr 1; omega)
    refine hb y ((chT l t).length - 1 - j + 1) (Nat.succ_pos _) ?_
    rw [it_add, h1]
    show (nxT x l).bind (itN l 0) = _
    rw [hn]
    rfl
end Go.Proofs.Ytkballjadkhepaa
