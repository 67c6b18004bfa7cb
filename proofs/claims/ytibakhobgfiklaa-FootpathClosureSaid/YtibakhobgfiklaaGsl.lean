/-
  A slice of slices of ints that a call makes and lets grow, its rows lie apart: behind an append of a row, behind an append to one row and the store of it, behind a store into a row. Condition: none beyond each theorem's own hypotheses.
-/
import Derived.Test.YtibakhobgfiklaaMb
import Derived.Test.YtibakhobgfiklaaMd
namespace Go.Proofs.Ytibakhobgfiklaa
open Go.RowKit

theorem own_block {w w' : World} {base : Nat} {T : TypeId} {k : Nat} {v : Value} {n : Nat} {xs : List Value} (h : w.ownsRow base T k v n xs) (hk : ∀ g, v.ownBlock = some g → w'.heap[g]? = w.heap[g]?) : w'.ownsRow base T k v n xs := by
  refine ⟨h.1, ?_⟩
  rcases h.2 with h0 | ⟨g, cap, cur, hv, hbg, hg, hr⟩
  · exact Or.inl h0
  · exact Or.inr ⟨g, cap, cur, hv, hbg, (hk g (by rw [hv]; rfl)).trans hg, hr⟩
theorem own_type {w : World} {base : Nat} {T : TypeId} {k : Nat} {v : Value} {n : Nat} {xs : List Value} (h : w.ownsRow base T k v n xs) {g : Nat} (hg : v.ownBlock = some g) : base ≤ g ∧ g < w.heap.size ∧ ∃ cs, w.heap[g]? = some (.cells cs T (0, 0)) := by
  rcases h.2 with ⟨h0, _⟩ | ⟨g', cap, cur, hv, hbg, hgk, hr⟩
  · rw [h0] at hg
    cases hg
  · rw [hv] at hg
    cases hg
    refine ⟨hbg, ?_, cur, hgk⟩
    rcases Nat.lt_or_ge g' w.heap.size with h | h
    · exact h
    · rw [Array.getElem?_eq_none h] at hgk; cases hgk
theorem own_apart {w : World} {base base' : Nat} {T T' : TypeId} {k k' : Nat} {v v' : Value} {n n' : Nat} {xs xs' : List Value} (h : w.ownsRow base T k v n xs) (h' : w.ownsRow base' T' k' v' n' xs') (hT : T ≠ T') {g : Nat} (hg : v.ownBlock = some g) : some g ≠ v'.ownBlock := by
  intro e
  obtain ⟨_, _, cs, h1⟩ := own_type h hg
  obtain ⟨_, _, cs', h2⟩ := own_type h' e.symm
  rw [h1] at h2
  cases h2
  exact hT rfl
/-- A slice of slices of the call's own, its rows the call's own too, each in a block of its own. -/
structure Gs (w : World) (base : Nat) (gv : Value) (ts : List SlT) (gs : List (List Int)) : Prop where
  row : OwnL w base gv ts
  len : ts.length = gs.length
  rows : ∀ (i : Nat) t g, ts[i]? = some t → gs[i]? = some g → OwnI w base (svV t) g
  apart : ∀ (i j : Nat) t u, ts[i]? = some t → ts[j]? = some u → i ≠ j → ∀ g, (svV t).ownBlock = some g → (svV u).ownBlock ≠ some g
theorem Gs.nil (w : World) (base : Nat) : Gs w base (.slice none 0 0) [] [] := ⟨OwnG.nil _ _ _ _ _, rfl, fun i t g h => by simp at h, fun i j t u h => by simp at h⟩
theorem Gs.keep {w w' : World} {base : Nat} {gv : Value} {ts : List SlT} {gs : List (List Int)} (h : Gs w base gv ts gs) (hk : ∀ j, base ≤ j → j < w.heap.size → w'.heap[j]? = w.heap[j]?) : Gs w' base gv ts gs :=
  ⟨ownK_keep h.row hk, h.len, fun i t g ht hg => own_keep (h.rows i t g ht hg) hk, h.apart⟩
theorem Gs.below {w w' : World} {base : Nat} {gv : Value} {ts : List SlT} {gs : List (List Int)} (h : Gs w base gv ts gs) (hb : Below w.heap.size w w') : Gs w' base gv ts gs := h.keep fun j _ hj => hb.block j hj
/-- Behind a store in a block below. -/
theorem Gs.other {w w' : World} {base b : Nat} {gv : Value} {ts : List SlT} {gs : List (List Int)} (h : Gs w base gv ts gs) (hg : w.grownBy w' (some b)) (hb : b < base) : Gs w' base gv ts gs := h.keep fun j h1 h2 => hg.block j h2 (fun e => by have := Option.some.inj e; omega)
/-- Which row stands at an index. -/
theorem Gs.at {w : World} {base : Nat} {gv : Value} {ts : List SlT} {gs : List (List Int)} (h : Gs w base gv ts gs) {i : Nat} {g : List Int} (hg : gs[i]? = some g) : ∃ t, ts[i]? = some t ∧ OwnI w base (svV t) g := by
  obtain ⟨t, ht⟩ := at_lt (l := ts) (k := i) (by rw [h.len]; exact (List.getElem?_eq_some_iff.1 hg).1)
  exact ⟨t, ht, h.rows i t g ht hg⟩
/-- Behind an append of a nil row. -/
theorem Gs.grow {w w' : World} {base : Nat} {gv v : Value} {ts : List SlT} {gs : List (List Int)} (h : Gs w base gv ts gs) (h1 : OwnL w' base v (ts ++ [(none, 0, 0)])) (h2 : w.grownBy w' gv.ownBlock) : Gs w' base v (ts ++ [(none, 0, 0)]) (gs ++ [[]]) := by
  refine ⟨h1, by rw [List.length_append, List.length_append, h.len]; rfl, fun i t g ht hg => ?_, fun i j t u ht hu hne b hb => ?_⟩
  · rcases Nat.lt_trichotomy i ts.length with hl | hl | hl
    · rw [List.getElem?_append_left hl] at ht
      rw [List.getElem?_append_left (by rw [← h.len]; exact hl)] at hg
      have ho := h.rows i t g ht hg
      exact own_block ho fun b hb => h2.block b (own_type ho hb).2.1 (own_apart ho h.row (by decide) hb)
    · subst hl
      rw [List.getElem?_append_right (Nat.le_refl _), Nat.sub_self] at ht
      rw [List.getElem?_append_right (Nat.le_of_eq h.len.symm), h.len, Nat.sub_self] at hg
      cases ht
      cases hg
      exact OwnI.nil _ _
    · rw [List.getElem?_eq_none (by rw [List.length_append, List.length_singleton]; omega)] at ht
      cases ht
  · have sm : ∀ (i : Nat) t, (ts ++ [((none, 0, 0) : SlT)])[i]? = some t → ∀ b, (svV t).ownBlock = some b → ts[i]? = some t := by
      intro i t ht b hb
      rcases Nat.lt_trichotomy i ts.length with hl | hl | hl
      · rw [List.getElem?_append_left hl] at ht
        exact ht
      · subst hl
        rw [List.getElem?_append_right (Nat.le_refl _), Nat.sub_self] at ht
        cases ht
        cases hb
      · rw [List.getElem?_eq_none (by rw [List.length_append, List.length_singleton]; omega)] at ht
        cases ht
    intro hu'
    exact h.apart i j t u (sm i t ht b hb) (sm j u hu b hu') hne b hb hu'
/-- The row of rows behind an append to one of them. -/
theorem Gs.stay {w w1 : World} {base : Nat} {gv : Value} {ts : List SlT} {gs : List (List Int)} (h : Gs w base gv ts gs) {i : Nat} {t : SlT} {g : List Int} (ht : ts[i]? = some t) (hg : gs[i]? = some g) (h2 : w.grownBy w1 (svV t).ownBlock) : OwnL w1 base gv ts :=
  own_block h.row fun b hb => h2.block b (own_type h.row hb).2.1 (own_apart h.row (h.rows i t g ht hg) (by decide) hb)
/-- Behind an append to one row and the store of it. -/
theorem Gs.step {w w1 : World} {base gb n c : Nat} {ts : List SlT} {gs : List (List Int)} (h : Gs w base (.slice (some ⟨gb, 0, none⟩) n c) ts gs) (hn : ts.length = n) {i : Nat} {t t' : SlT} {g : List Int} {x : Int} (ht : ts[i]? = some t) (hg : gs[i]? = some g)
    (h1 : OwnI w1 base (svV t') (g ++ [x])) (h2 : w.grownBy w1 (svV t).ownBlock) (h3 : ∀ b, (svV t').ownBlock = some b → (svV t).ownBlock = some b ∨ b = w.heap.size) : Gs (w1.setCell ⟨gb, i, none⟩ (svV t')) base (.slice (some ⟨gb, 0, none⟩) n c) (ts.set i t') (gs.set i (g ++ [x])) := by
  have ho := h.rows i t g ht hg
  have hgb := own_type h.row (g := gb) rfl
  have hrow : OwnL w1 base (.slice (some ⟨gb, 0, none⟩) n c) ts := own_block h.row fun b hb => by
    refine h2.block b (own_type h.row hb).2.1 (own_apart h.row ho (by decide) hb)
  have keep : ∀ {v : Value} {l : List Int}, OwnI w1 base v l → OwnI (w1.setCell ⟨gb, i, none⟩ (svV t')) base v l := fun hv => own_block hv fun b hb => by
    refine RowKit.Below.heap_setCell _ _ _ _ fun e => ?_
    have := own_apart hv hrow (by decide) hb
    exact this (by rw [e]; rfl)
  have hl : i < ts.length := (List.getElem?_eq_some_iff.1 ht).1
  refine ⟨OwnL.putn hn hrow i t', by rw [List.length_set, List.length_set, h.len], fun j u q hu hq => ?_, fun j k u v hu hv hne b hb hb' => ?_⟩
  · rw [List.getElem?_set] at hu hq
    by_cases e : i = j
    · rw [if_pos e] at hu hq
      rw [if_pos hl] at hu
      rw [if_pos (by rw [← h.len]; exact hl)] at hq
      cases hu
      cases hq
      exact keep h1
    · rw [if_neg e] at hu hq
      have hj := h.rows j u q hu hq
      refine keep (own_block hj fun b hb => h2.block b (own_type hj hb).2.1 fun e2 => ?_)
      exact h.apart j i u t hu ht (Ne.symm e) b hb e2.symm
  · rw [List.getElem?_set] at hu hv
    by_cases e : i = j
    · rw [if_pos e, if_pos hl] at hu
      cases hu
      rw [if_neg (by omega)] at hv
      obtain ⟨q, hq⟩ := at_lt (l := gs) (k := k) (by rw [← h.len]; exact (List.getElem?_eq_some_iff.1 hv).1)
      rcases h3 b hb with h4 | h4
      · exact h.apart i k t v ht hv (by omega) b h4 hb'
      · have := (own_type (h.rows k v q hv hq) hb').2.1
        omega
    · rw [if_neg e] at hu
      by_cases e2 : i = k
      · rw [if_pos e2, if_pos hl] at hv
        cases hv
        obtain ⟨q, hq⟩ := at_lt (l := gs) (k := j) (by rw [← h.len]; exact (List.getElem?_eq_some_iff.1 hu).1)
        rcases h3 b hb' with h4 | h4
        · exact h.apart i j t u ht hu e b h4 hb
        · have := (own_type (h.rows j u q hu hq) hb).2.1
          omega
      · rw [if_neg e2] at hv
        exact h.apart j k u v hu hv hne b hb hb'
/-- What is left for a reader. -/
theorem Gs.ll {w : World} {base : Nat} {gv : Value} {ts : List SlT} {gs : List (List Int)} (h : Gs w base gv ts gs) : LL w gv gs := ⟨ts, OwnG.lst h.row, h.len, fun i t l ht hl => OwnI.lst (h.rows i t l ht hl)⟩
/-- What a row's value is, and its cells: of the outer row at an index, of the row at another. -/
theorem Gs.cell {w : World} {base : Nat} {A : Option Addr} {n c : Nat} {ts : List SlT} {gs : List (List Int)} (h : Gs w base (.slice A n c) ts gs) {i : Nat} {g : List Int} (hg : gs[i]? = some g) {j : Nat} {x : Int} (hx : g[j]? = some x) :
    n = gs.length ∧ ∃ gb b k, A = some ⟨gb, 0, none⟩ ∧ base ≤ gb ∧ gb < w.heap.size ∧ base ≤ b ∧ b < w.heap.size ∧ gb ≠ b ∧ ts[i]? = some (some ⟨b, 0, none⟩, g.length, k) ∧ w.cell? ⟨gb, i, none⟩ = some (.slice (some ⟨b, 0, none⟩) g.length k) ∧ w.cell? ⟨b, j, none⟩ = some (.int .i64 x) ∧ w.frozen? ⟨b, j, none⟩ = false := by
  obtain ⟨t, ht, ho⟩ := h.at hg
  have hi := (List.getElem?_eq_some_iff.1 hg).1
  have hj := (List.getElem?_eq_some_iff.1 hx).1
  rcases OwnI.low ho with ⟨-, e⟩ | ⟨b, k, e, h1, h2, h3⟩
  · rw [e] at hj; exact absurd hj (Nat.not_lt_zero _)
  rw [e] at ho
  obtain ⟨c1, f1⟩ := OwnI.at ho hx
  obtain ⟨A', n', k'⟩ := t
  have e' : (Value.slice A' n' k') = .slice (some ⟨b, 0, none⟩) g.length k := e
  injection e' with q1 q2 q3
  subst q1 q2 q3
  have hrow := h.row
  obtain ⟨A2, c2, hv, hc2, hA⟩ := ownK_shape hrow
  have hlen : n = gs.length := by
    have := congrArg (fun v => match v with | Value.slice _ m _ => m | _ => 0) hv
    simp only at this
    rw [this, h.len]
  have hgb : ∃ gb, A = some ⟨gb, 0, none⟩ ∧ base ≤ gb ∧ gb < w.heap.size := by
    rcases hrow.2 with ⟨h0, h00⟩ | ⟨g', cap, cur, h0, hbg, hgk, -⟩
    · have := h.len; omega
    · injection h0 with q1 _ _
      refine ⟨g', q1, hbg, ?_⟩
      rcases Nat.lt_or_ge g' w.heap.size with hh | hh
      · exact hh
      · rw [Array.getElem?_eq_none hh] at hgk; cases hgk
  obtain ⟨gb, rfl, hb1, hb2⟩ := hgb
  have hcell := (OwnL.atn (n := n) (by rw [h.len]; exact hlen.symm) hrow ht).1
  refine ⟨hlen, gb, b, _, rfl, hb1, hb2, h1, h2, fun e => ?_, ht, hcell, c1, f1⟩
  exact own_apart hrow ho (by decide) (g := gb) rfl (by rw [e]; rfl)
/-- Behind an append of a row that lies above the others. -/
theorem Gs.snoc {w w' : World} {base B : Nat} {gv v : Value} {ts : List SlT} {gs : List (List Int)} {t : SlT} {g : List Int} (h : Gs w base gv ts gs) (hB : base ≤ B) (hlow : ∀ (i : Nat) u, ts[i]? = some u → ∀ b, (svV u).ownBlock = some b → b < B) (ho : OwnI w B (svV t) g) (h1 : OwnL w' base v (ts ++ [t])) (h2 : w.grownBy w' gv.ownBlock) : Gs w' base v (ts ++ [t]) (gs ++ [g]) := by
  have ob : OwnI w base (svV t) g := own_down ho hB
  refine ⟨h1, by rw [List.length_append, List.length_append, h.len]; rfl, fun i u q hu hq => ?_, fun i j u q hu hq hne b hb hb' => ?_⟩
  · rcases Nat.lt_trichotomy i ts.length with hl | hl | hl
    · rw [List.getElem?_append_left hl] at hu
      rw [List.getElem?_append_left (by rw [← h.len]; exact hl)] at hq
      have hr := h.rows i u q hu hq
      exact own_block hr fun b hb => h2.block b (own_type hr hb).2.1 (own_apart hr h.row (by decide) hb)
    · subst hl
      rw [List.getElem?_append_right (Nat.le_refl _), Nat.sub_self] at hu
      rw [List.getElem?_append_right (Nat.le_of_eq h.len.symm), h.len, Nat.sub_self] at hq
      cases hu
      cases hq
      exact own_block ob fun b hb => h2.block b (own_type ob hb).2.1 (own_apart ob h.row (by decide) hb)
    · rw [List.getElem?_eq_none (by rw [List.length_append, List.length_singleton]; omega)] at hu
      cases hu
  · have cases_ : ∀ (i : Nat) u, (ts ++ [t])[i]? = some u → ts[i]? = some u ∨ i = ts.length ∧ u = t := by
      intro i u hu
      rcases Nat.lt_trichotomy i ts.length with hl | hl | hl
      · rw [List.getElem?_append_left hl] at hu
        exact .inl hu
      · subst hl
        rw [List.getElem?_append_right (Nat.le_refl _), Nat.sub_self] at hu
        cases hu
        exact .inr ⟨rfl, rfl⟩
      · rw [List.getElem?_eq_none (by rw [List.length_append, List.length_singleton]; omega)] at hu
        cases hu
    rcases cases_ i u hu with a1 | ⟨rfl, rfl⟩
    · rcases cases_ j q hq with a2 | ⟨rfl, rfl⟩
      · exact h.apart i j u q a1 a2 hne b hb hb'
      · have := hlow i u a1 b hb
        have := (own_type ho hb').1
        omega
    · rcases cases_ j q hq with a2 | ⟨rfl, rfl⟩
      · have := hlow j q a2 b hb'
        have := (own_type ho hb).1
        omega
      · exact hne rfl
/-- Behind a store into a row. -/
theorem Gs.put {w : World} {base b k : Nat} {gv : Value} {ts : List SlT} {gs : List (List Int)} {i : Nat} {g : List Int} (h : Gs w base gv ts gs) (ht : ts[i]? = some (some ⟨b, 0, none⟩, g.length, k)) (hg : gs[i]? = some g) (j : Nat) (x : Int) : Gs (w.setCell ⟨b, j, none⟩ (.int .i64 x)) base gv ts (gs.set i (g.set j x)) := by
  have ho := h.rows i _ g ht hg
  have hi := (List.getElem?_eq_some_iff.1 hg).1
  have other : ∀ {T : TypeId} {kk : Nat} {v : Value} {n : Nat} {xs : List Value}, w.ownsRow base T kk v n xs → (∀ q, v.ownBlock = some q → q ≠ b) → (w.setCell ⟨b, j, none⟩ (.int .i64 x)).ownsRow base T kk v n xs := fun hr hne => own_block hr fun q hq => RowKit.Below.heap_setCell _ _ _ _ (fun e => hne q hq e)
  refine ⟨other h.row fun q hq e => ?_, by rw [List.length_set]; exact h.len, fun a u q hu hq => ?_, h.apart⟩
  · exact own_apart h.row ho (by decide) hq (by rw [e]; rfl)
  · rw [List.getElem?_set] at hq
    by_cases e : i = a
    · subst e
      rw [if_pos rfl, if_pos hi] at hq
      rw [ht] at hu
      cases hu
      cases hq
      have := OwnI.put (show OwnI w base (.slice (some ⟨b, 0, none⟩) g.length k) g from ho) j x
      show OwnI _ _ (.slice (some ⟨b, 0, none⟩) g.length k) _
      exact this
    · rw [if_neg e] at hq
      have hr := h.rows a u q hu hq
      exact other hr fun z hz e2 => h.apart i a _ u ht hu e b rfl (by rw [hz, e2])
end Go.Proofs.Ytibakhobgfiklaa
