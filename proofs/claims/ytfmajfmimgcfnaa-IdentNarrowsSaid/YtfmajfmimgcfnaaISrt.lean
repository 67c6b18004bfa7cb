/-
  Sorting a row of indices by the names at them: the world behind the sort, the list that the row holds then; the comparison that the sort is handed. Condition: the names are different.
-/
import Derived.Test.YtfmajfmimgcfnaaITab
import Derived.Shelf.SlSortCmp.NoneTotal
namespace Go.Proofs.Ytfmajfmimgcfnaa
open Go.RowKit Go.Sort

/-! ### The world behind a sort -/
theorem heap_sortW {α : Type} [Inhabited α] {enc : α → Value} {w : World} {g n : Nat} {os : Array Obj} {cur : Array Value} {e : TypeId} {fr : Nat × Nat} (d : Array α) (hb : w.heap[g]? = some (.cells cur e fr)) :
    (sortWorld enc w g 0 n d os).heap[g]? = some (.cells (putCells enc 0 d cur) e fr) := by
  have hg : g < w.heap.size := (Array.getElem?_eq_some_iff.1 hb).1
  unfold sortWorld
  rw [heap_grow_old _ _ (by simpa using hg)]
  simp [putRow, mapBlock, Sort.ahead, Array.getElem?_modify, hb, onCells]
theorem below_sortW {α : Type} [Inhabited α] {enc : α → Value} {w : World} {g n base : Nat} {os : Array Obj} (d : Array α) (hb : base ≤ g) (hl : base ≤ w.heap.size) : Below base w (sortWorld enc w g 0 n d os) := by
  refine ⟨rfl, rfl, rfl, by simp [sortWorld], fun k hk => ?_⟩
  unfold sortWorld
  rw [heap_grow_old _ _ (by simp; omega)]
  have : g ≠ k := by omega
  simp [putRow, mapBlock, Sort.ahead, Array.getElem?_modify, this]
/-- An index below n as a value. -/
def encF (n : Nat) (i : Fin n) : Value := .int .i64 ((i.val : Nat) : Int)
/-- The ints of such indices. -/
def intsF {n : Nat} (l : List (Fin n)) : List Int := l.map fun i : Fin n => ((i.val : Nat) : Int)
theorem holds_own {n : Nat} [Inhabited (Fin n)] {w : World} {g : Nat} {cur : Array Value} {l : List (Fin n)} (hb : w.heap[g]? = some (.cells cur 3 (0, 0))) (ht : cur.toList.take l.length = ints (intsF l)) : Holds (encF n) w g 0 l.toArray := by
  intro j hj
  have hj' : j < l.length := by simpa using hj
  refine ⟨?_, by simp [World.frozen?, hb]⟩
  have h1 : (cur.toList.take l.length)[j]? = (ints (intsF l))[j]? := by rw [ht]
  rw [List.getElem?_take_of_lt hj'] at h1
  simp only [World.cell?, hb, Nat.zero_add]
  simp only [Option.isSome_none, Bool.false_eq_true, if_false]
  rw [← Array.getElem?_toList, h1]
  simp [hj', intsF, encF]
theorem lst_sorted {n : Nat} [Inhabited (Fin n)] {w : World} {g cap m : Nat} {os : Array Obj} {cur : Array Value} (l : List (Fin n)) (hb : w.heap[g]? = some (.cells cur 3 (0, 0))) (hl : l.length ≤ cur.size) (hc : l.length ≤ cap) :
    LstI (sortWorld (encF n) w g 0 m l.toArray os) (.slice (some ⟨g, 0, none⟩) l.length cap) (intsF l) := by
  have hg : g < w.heap.size := (Array.getElem?_eq_some_iff.1 hb).1
  have hh := heap_sortW (n := m) (os := os) (enc := encF n) l.toArray hb
  have hlen : (intsF l).length = l.length := List.length_map _
  refine ⟨some ⟨g, 0, none⟩, cap, by rw [hlen], by rw [hlen]; exact hc, fun h => absurd h (by simp), fun _ => ⟨g, 0, rfl, (Array.getElem?_eq_some_iff.1 hh).1, fun j x hj => ?_⟩⟩
  rw [Nat.zero_add, cell_of_row _ g j _ _ _ hh, ← hj]
  have hjl : j < l.length := by
    have := (List.getElem?_eq_some_iff.1 hj).1
    rw [List.length_map, hlen] at this
    exact this
  simp [putCells, hjl, show j < cur.size by omega, intsF, encF]

/-! ### The comparison, and the list -/
def cfF (ls : List (List UInt8)) (i j : Fin ls.length) : Int := cmpL (nameAt ls i) (nameAt ls j)
theorem ltF (ls : List (List UInt8)) (i j : Fin ls.length) : ltOf (cfF ls) i j = decide (cmpL (nameAt ls i) (nameAt ls j) = -1) := by
  unfold ltOf cfF
  have := cmp_three (nameAt ls i) (nameAt ls j)
  rw [Bool.eq_iff_iff, decide_eq_true_iff, decide_eq_true_iff]
  omega
theorem leF (ls : List (List UInt8)) (i j : Fin ls.length) : (!ltOf (cfF ls) j i) = leN ls i j := by
  rw [ltF]
  unfold leN
  have h1 := cmp_three (nameAt ls i) (nameAt ls j)
  have h2 := cmp_neg (nameAt ls i) (nameAt ls j)
  rw [Bool.eq_iff_iff, Bool.not_eq_true', decide_eq_false_iff_not, decide_eq_true_iff]
  omega
theorem swoF (ls : List (List UInt8)) : SWO (ltOf (cfF ls)) where
  irrefl x := by rw [ltF, decide_eq_false_iff_not]; exact lt_irrefl _
  trans x y z h1 h2 := by
    rw [ltF, decide_eq_true_iff] at *
    exact lt_trans _ _ _ h1 h2
  ntrans x y z h1 h2 := by
    have e1 := leF ls y x
    have e2 := leF ls z y
    have e3 := leF ls z x
    rw [h1] at e1
    rw [h2] at e2
    rw [leN_trans ls z y x e2.symm e1.symm] at e3
    simpa using e3
theorem totF {ls : List (List UInt8)} (hg : Good5 ls) (x y : Fin ls.length) (h1 : ltOf (cfF ls) x y = false) (h2 : ltOf (cfF ls) y x = false) : x = y := by
  rw [ltF, decide_eq_false_iff_not] at h1 h2
  apply Fin.ext
  refine name_diff hg x.2 y.2 ?_
  have a := cmp_three (nameAt ls x) (nameAt ls y)
  have b := cmp_neg (nameAt ls x) (nameAt ls y)
  exact (cmp_iff _ _).1 (by omega)
/-- The indices below k whose names begin with p, ahead of the sort. -/
def mtch (ls : List (List UInt8)) (p : List UInt8) (k : Nat) : List Nat := (List.range k).filter fun i => beginsB p (nameAt ls i)
theorem mtch_yes {ls : List (List UInt8)} {p : List UInt8} {k : Nat} (h : beginsB p (nameAt ls k) = true) : mtch ls p (k + 1) = mtch ls p k ++ [k] := by
  unfold mtch
  rw [List.range_succ, List.filter_append]
  simp [h]
theorem mtch_no {ls : List (List UInt8)} {p : List UInt8} {k : Nat} (h : beginsB p (nameAt ls k) = false) : mtch ls p (k + 1) = mtch ls p k := by
  unfold mtch
  rw [List.range_succ, List.filter_append]
  simp [h]
theorem mtch_len (ls : List (List UInt8)) (p : List UInt8) (k : Nat) : (mtch ls p k).length ≤ k := by
  have := List.length_filter_le (fun i => beginsB p (nameAt ls i)) (List.range k)
  rw [List.length_range] at this
  exact this
/-- Ints of indices. -/
def intN (l : List Nat) : List Int := l.map fun i : Nat => (i : Int)
theorem intN_len (l : List Nat) : (intN l).length = l.length := List.length_map _
/-- The indices ahead of the sort, as indices below the number of names. -/
def mtF (ls : List (List UInt8)) (p : List UInt8) : List (Fin ls.length) := (mtch ls p ls.length).pmap (fun i h => ⟨i, h⟩) fun _ hi => List.mem_range.1 (List.mem_filter.1 hi).1
theorem mtF_val (ls : List (List UInt8)) (p : List UInt8) : (mtF ls p).map (fun i => i.val) = mtch ls p ls.length := by
  unfold mtF
  rw [List.map_pmap]
  simp
theorem mtF_ints (ls : List (List UInt8)) (p : List UInt8) : intsF (mtF ls p) = intN (mtch ls p ls.length) := by
  rw [← mtF_val]
  unfold intsF intN
  rw [List.map_map]
  rfl
theorem mtF_len (ls : List (List UInt8)) (p : List UInt8) : (mtF ls p).length = (mtch ls p ls.length).length := by rw [← mtF_val, List.length_map]
/-- What the row holds behind the sort. -/
def srtF (ls : List (List UInt8)) (p : List UInt8) : List (Fin ls.length) := (mtF ls p).mergeSort fun x y => !(ltOf (cfF ls)) y x
theorem srtF_len (ls : List (List UInt8)) (p : List UInt8) : (srtF ls p).length = (mtF ls p).length := (List.mergeSort_perm _ _).length_eq
theorem srtF_sec {ls : List (List UInt8)} (hg : Good5 ls) (p : List UInt8) : intsF (srtF ls p) = intN (secL ls p) := by
  have h : (srtF ls p).map (fun i => i.val) = secL ls p := by
    refine sec_eq hg (section_of hg p _ ?_ ?_)
    · rw [List.pairwise_map]
      refine List.Pairwise.imp ?_ (List.pairwise_mergeSort (le := fun x y => !(ltOf (cfF ls)) y x) (fun x y z h1 h2 => ?_) (fun x y => ?_) (mtF ls p))
      · intro x y h
        rw [← leF]
        exact h
      · rw [leF] at *
        exact leN_trans ls _ _ _ h1 h2
      · rw [leF, leF]
        exact leN_total ls _ _
    · have := (List.mergeSort_perm (mtF ls p) fun x y => !(ltOf (cfF ls)) y x).map (fun i => i.val)
      rw [mtF_val] at this
      exact this
  rw [← h]
  unfold intsF intN
  rw [List.map_map]
  rfl
theorem sec_none {ls : List (List UInt8)} {p : List UInt8} (h : (mtch ls p ls.length).length = 0) : secL ls p = [] := by
  refine List.length_eq_zero_iff.1 ?_
  rw [(sec_perm ls p).length_eq]
  exact h

/-! ### The function that the sort is handed -/
set_option maxHeartbeats 1000000 in
theorem closure_any (w : World) (B base : Nat) (t : Value) (ls : List (List UInt8)) (hc : w.cell? ⟨B, 0, none⟩ = some t) (h : Tab w base t ls) (i j : Nat) (hi : i < ls.length) (hj : j < ls.length) :
    Calls Try.prog 39 #[.int .i64 (i : Int), .int .i64 (j : Int), .pointer (some ⟨B, 0, none⟩)] w fun e w' => e = .returned (.int .i64 (cmpL (nameAt ls i) (nameAt ls j))) ∧ ∃ m, w' = w.drewN m := by
  obtain ⟨tb, mb, nv, rfl, h1, h2, h3, h4, h5, h6, h7⟩ := h
  obtain ⟨A, c, rfl, hcap, hcell⟩ := h5.lst
  obtain ⟨b, o, rfl, hbl, hcc⟩ := hcell (by omega)
  have m1 := hcc i _ (sts_at ls i _ (name_at hi))
  have m2 := hcc j _ (sts_at ls j _ (name_at hj))
  obtain ⟨s1, e1, _, t1⟩ := as_str (nameAt ls i)
  obtain ⟨s2, e2, _, t2⟩ := as_str (nameAt ls j)
  rw [t1] at m1
  rw [t2] at m2
  have C := Lib.hid (fun W => compare_any s1 s2 W)
  rw [e1, e2] at C
  generalize cmpL (nameAt ls i) (nameAt ls j) = r at C ⊢
  have gi : (i : Int) < (ls.length : Int) := by omega
  have gj : (j : Int) < (ls.length : Int) := by omega
  clear h1 h2 h4 h5 h6 h7 hcell hcc e1 e2 t1 t2 hcap hbl
  go_enter Try.func39, Try.ntmps39
  go_wp2_with fail
  go_quiet ((go_at_call 15; with_reducible exact quiet_of C.out _ _))
  go_wp2_with fail
  go_ret
  exact ⟨rfl, nq, rfl⟩
end Go.Proofs.Ytfmajfmimgcfnaa
