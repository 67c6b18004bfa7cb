/-
  Around: the stops within a time: what the call answers (Sort and Compact of ints); Time: the smallest time. Condition: lists of at most 100000 footpaths.
-/
import Derived.Test.YtibakhobgfiklaaFpE
import Derived.Test.YtibakhobgfiklaaMb
import Derived.Test.YtibakhobgfiklaaSrtI
import Derived.Test.YtibakhobgfiklaaShelf
namespace Go.Proofs.Ytibakhobgfiklaa
open Go.RowKit Go.Sort

/-! ### Sorted ints without doubles -/
theorem cmpt_upto {zs : List Int} (hs : zs.Pairwise (· ≤ ·)) : ∀ m, m ≤ zs.length → (Go.Lib.compactUpTo zs.toArray m).Pairwise (· < ·) ∧ ∀ x, x ∈ Go.Lib.compactUpTo zs.toArray m ↔ x ∈ zs.take m
  | 0, _ => by simp [Go.Lib.compactUpTo]
  | m + 1, hm => by
    obtain ⟨h1, h2⟩ := cmpt_upto hs m (by omega)
    obtain ⟨x, hx⟩ := at_lt (show m < zs.length by omega)
    have gx : zs.toArray[m]! = x := by
      rw [getElem!_pos _ _ (by simp; omega)]
      have := (List.getElem?_eq_some_iff.1 hx).2
      simpa using this
    rw [Go.Lib.compactUpTo_succ, take_at zs m x hx]
    have all : ∀ z ∈ zs.take m, z ≤ x := by
      intro z hz
      rw [← List.take_append_drop m zs, List.drop_eq_getElem_cons (show m < zs.length by omega), (List.getElem?_eq_some_iff.1 hx).2] at hs
      exact (List.pairwise_append.1 hs).2.2 z hz x List.mem_cons_self
    rcases Nat.eq_zero_or_pos m with h0 | h0
    · subst h0
      have hk : Go.Lib.keeps zs.toArray 0 = true := Go.Lib.keeps_lt_one _ 0 (by omega)
      rw [if_pos hk, gx]
      simp [Go.Lib.compactUpTo]
    · obtain ⟨y, hy⟩ := at_lt (show m - 1 < zs.length by omega)
      have gy : zs.toArray[m - 1]! = y := by
        rw [getElem!_pos _ _ (by simp; omega)]
        have := (List.getElem?_eq_some_iff.1 hy).2
        simpa using this
      have my : y ∈ zs.take m := List.mem_iff_getElem?.2 ⟨m - 1, by rw [List.getElem?_take, if_pos (by omega)]; exact hy⟩
      by_cases e : x = y
      · have hk : Go.Lib.keeps zs.toArray m = false := Go.Lib.keeps_neg h0 (by rw [gx, gy, e])
        rw [hk]
        simp only [Bool.false_eq_true, if_false, List.append_nil]
        refine ⟨h1, fun z => ?_⟩
        rw [h2 z, List.mem_append, List.mem_singleton]
        constructor
        · exact .inl
        · rintro (h | h)
          · exact h
          · rw [h, e]; exact my
      · have hk : Go.Lib.keeps zs.toArray m = true := Go.Lib.keeps_pos (by rw [gx, gy]; exact e)
        rw [if_pos hk, gx]
        refine ⟨List.pairwise_append.2 ⟨h1, List.pairwise_singleton _ _, fun z hz u hu => ?_⟩, fun z => ?_⟩
        · rw [List.mem_singleton.1 hu]
          have hzt := (h2 z).1 hz
          -- below the one ahead, and that is another one
          have hzy : z ≤ y := by
            obtain ⟨i, hi⟩ := List.mem_iff_getElem?.1 hzt
            rw [List.getElem?_take] at hi
            split at hi
            · next him =>
              rcases Nat.lt_or_ge i (m - 1) with hlt | hge
              · obtain ⟨l1, e1⟩ := List.getElem?_eq_some_iff.1 hi
                obtain ⟨l2, e2⟩ := List.getElem?_eq_some_iff.1 hy
                have := List.pairwise_iff_getElem.1 hs i (m - 1) l1 l2 hlt
                rw [e1, e2] at this
                exact this
              · obtain rfl : i = m - 1 := by omega
                rw [hy] at hi
                exact Int.le_of_eq (Option.some.inj hi).symm
            · cases hi
          have := all y my
          omega
        · rw [List.mem_append, List.mem_append, h2 z]
theorem cmpt_srt (l : List Int) : (Go.Lib.compact (srtI l)).Pairwise (· < ·) ∧ ∀ x, x ∈ Go.Lib.compact (srtI l) ↔ x ∈ l := by
  obtain ⟨h1, h2⟩ := cmpt_upto (srtI_up l) (srtI l).length (Nat.le_refl _)
  refine ⟨h1, fun x => ?_⟩
  rw [← srtI_mem l x]
  have := h2 x
  rw [List.take_length] at this
  exact this
/-- The stops as they come. -/
def nearL (l : List Fp) (s m : Int) (sf : Bool) : List Int := (l.filter (nrP s m sf)).map fun x => x.2.1
theorem near_next {l : List Fp} {s m : Int} {sf : Bool} {k : Nat} {x : Fp} (h : l[k]? = some x) : nearL (l.take (k + 1)) s m sf = nearL (l.take k) s m sf ++ if nrP s m sf x then [x.2.1] else [] := by
  unfold nearL
  rw [take_at l k x h, List.filter_append, List.map_append]
  by_cases hn : nrP s m sf x = true <;> simp [hn]
theorem near_len (l : List Fp) (s m : Int) (sf : Bool) : (nearL l s m sf).length ≤ l.length := by
  unfold nearL
  rw [List.length_map]
  exact List.length_filter_le _ _
theorem near_ar (l : List Fp) (s m : Int) (sf : Bool) : Go.Lib.compact (srtI (nearL l s m sf)) = arF l s m sf := by
  obtain ⟨h1, h2⟩ := cmpt_srt (nearL l s m sf)
  refine lt_unique _ _ h1 (ar_up l s m sf) (fun z => ?_)
  rw [h2 z, ar_mem]
  unfold nearL
  rw [List.mem_map]
  constructor
  · rintro ⟨x, hx, e⟩
    obtain ⟨h3, h4⟩ := List.mem_filter.1 hx
    exact ⟨x, h3, h4, e⟩
  · rintro ⟨x, h3, h4, e⟩
    exact ⟨x, List.mem_filter.2 ⟨h3, h4⟩, e⟩

/-! ### A row of ints put anew -/
theorem own_putI {w : World} {base g n c m : Nat} {l : List Int} {os : Array Obj} (hl : l.length = n) (h : OwnI w base (.slice (some ⟨g, 0, none⟩) n c) l) (d : List Int) (hd : d.length = n) :
    OwnI (grow (putRow (Value.int .i64) (Sort.ahead w m) g 0 d.toArray) os) base (.slice (some ⟨g, 0, none⟩) n c) d ∧ ∀ b, b ≤ g → b ≤ w.heap.size → RowKit.Below b w (grow (putRow (Value.int .i64) (Sort.ahead w m) g 0 d.toArray) os) := by
  subst hl
  refine ⟨?_, fun b h1 h2 => below_sortI _ h1 h2⟩
  rcases h.2 with ⟨h0, -⟩ | ⟨g', cap, cur, hv, hbg, hg, hn, hm, hcs, ht⟩
  · cases h0
  · cases hv
    have hh := heap_sortI (n := m) (os := os) d.toArray hg
    refine ⟨by simp, .inr ⟨g, c, _, by rw [hd], hbg, hh, by rw [hd]; exact hn, hm, by unfold putCells; simp; omega, ?_⟩⟩
    apply List.ext_getElem?
    intro j
    rw [Nat.mul_one, List.getElem?_take]
    by_cases hj : j < d.length
    · rw [if_pos hj]
      have hjc : j < cur.size := by rw [hcs, Nat.mul_one]; omega
      simp [putCells, hj, hjc]
    · rw [if_neg hj, List.getElem?_eq_none (by simp; omega)]
theorem lst_partI {w : World} {g n c k : Nat} {l : List Int} (h : LstI w (.slice (some ⟨g, 0, none⟩) n c) l) (hk : k ≤ l.length) : LstI w (.slice (some ⟨g, 0, none⟩) k c) (l.take k) := by
  obtain ⟨A, c', hv, h1, -, h3⟩ := h
  cases hv
  have hl : (l.take k).length = k := by rw [List.length_take]; omega
  refine ⟨some ⟨g, 0, none⟩, c, by rw [hl], by rw [hl]; omega, fun h => absurd h (by simp), fun h0 => ?_⟩
  obtain ⟨b, o, e, hb, hc⟩ := h3 (by omega)
  refine ⟨b, o, e, hb, fun j x hj => hc j x ?_⟩
  rw [← hj]
  unfold ints
  rw [List.getElem?_map, List.getElem?_map, List.getElem?_take]
  have : j < k := by
    have := (List.getElem?_eq_some_iff.1 hj).1
    rw [List.length_map, hl] at this
    exact this
  rw [if_pos this]
theorem elsI (l : List Int) : ints l = l.map (Value.int .i64) := rfl
theorem holdsI_of {w : World} {base g n c : Nat} {l : List Int} (hl : l.length = n) (h : OwnI w base (.slice (some ⟨g, 0, none⟩) n c) l) : Holds (Value.int .i64) w g 0 l.toArray ∧ g < w.heap.size ∧ base ≤ g ∧ n ≤ c := by
  subst hl
  rcases h.2 with ⟨h0, -⟩ | ⟨g', cap, cur, hv, hbg, hg, hn, hm, hcs, ht⟩
  · cases h0
  · cases hv
    rw [Nat.mul_one] at ht
    exact ⟨holdsI_own hg ht, (Array.getElem?_eq_some_iff.1 hg).1, hbg, hn⟩
theorem srt_call (base : Nat) (v : Value) (l : List Int) (hl : l.length ≤ 1000000) (w : World) (h : OwnI w base v l) (hs : base ≤ w.heap.size) :
    Calls Try.prog 30 #[v] w fun e w' => e = .returned (.tuple #[]) ∧ OwnI w' base v (srtI l) ∧ RowKit.Below base w w' := by
  rcases h.low with ⟨rfl, rfl⟩ | ⟨g, c, rfl, -⟩
  · refine (Try.slices_Sort_int_none none 0 w).mono ?_
    rintro e w' ⟨rfl, rfl⟩
    exact ⟨rfl, by rw [srtI_nil]; exact h, RowKit.Below.refl _ _⟩
  · obtain ⟨h1, h2, h3, h4⟩ := holdsI_of rfl h
    refine (Try.slices_Sort_int g 0 c l w h1 h2 (by omega)).mono ?_
    rintro e w' ⟨rfl, n, os, rfl⟩
    obtain ⟨k1, k2⟩ := own_putI (m := n) (os := os) rfl h (srtI l) (srtI_len l)
    exact ⟨rfl, k1, k2 base h3 hs⟩
theorem cmpt_call (base : Nat) (v : Value) (l : List Int) (hl : l.length ≤ 1000000) (w : World) (h : OwnI w base v l) (hs : base ≤ w.heap.size) :
    Calls Try.prog 31 #[v] w fun e w' => ∃ v', e = .returned v' ∧ LstI w' v' (Go.Lib.compact l) ∧ RowKit.Below base w w' := by
  rcases h.low with ⟨rfl, rfl⟩ | ⟨g, c, rfl, -⟩
  · refine (Try.slices_Compact_int_empty none 0 w).mono ?_
    rintro e w' ⟨rfl, rfl⟩
    exact ⟨_, rfl, LstI.nil _, RowKit.Below.refl _ _⟩
  · obtain ⟨h1, h2, h3, h4⟩ := holdsI_of rfl h
    refine (Try.slices_Compact_int g 0 c l w h1 (by omega) h4).mono ?_
    rintro e w' ⟨rfl, q, hw⟩
    have hc : (Go.Lib.compact l).length ≤ l.length := by
      unfold Go.Lib.compact Go.Lib.compactUpTo
      rw [List.length_map]
      have := List.length_filter_le (Go.Lib.keeps l.toArray) (List.range l.length)
      rw [List.length_range] at this
      exact this
    obtain ⟨k1, k2⟩ := own_putI (m := q) (os := #[]) rfl h (Go.Lib.compact l ++ List.replicate (l.length - (Go.Lib.compact l).length) 0) (by rw [List.length_append, List.length_replicate]; omega)
    rw [grow_empty, ← hw] at k1
    have k2 := k2 base h3 hs
    rw [grow_empty, ← hw] at k2
    have := lst_partI (OwnI.lst k1) (k := (Go.Lib.compact l).length) (by rw [List.length_append]; omega)
    rw [List.take_left] at this
    exact ⟨_, rfl, this, k2⟩
end Go.Proofs.Ytibakhobgfiklaa
