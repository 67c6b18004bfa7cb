/-
  sortPaths: what the call answers. The three functions that are handed to DeleteFunc and CompactFunc, isUsable, isWalk, isStop: what each answers. Condition: rows of at most 100000000 footpaths.
-/
import Derived.Test.YtibakhobgfiklaaFpT
namespace Go.Proofs.Ytibakhobgfiklaa
open Go.RowKit Go.Sort

/-- The same footpaths in order; those that the comparison does not part in their old order. -/
def StbS (l r : List Fp) : Prop := ∃ L : List Tg, L.Perm l.zipIdx ∧ L.Pairwise ltT ∧ L.map Prod.fst = r
theorem zip_opn (l : List Fp) : Opn cfT ltT l.zipIdx := by
  unfold Opn
  rw [List.pairwise_iff_getElem]
  intro i j hi hj hij h
  refine .inr ⟨h, ?_⟩
  rw [List.getElem_zipIdx, List.getElem_zipIdx]
  show 0 + i < 0 + j
  omega
theorem StbS.perm {l r : List Fp} (h : StbS l r) : r.Perm l := by
  obtain ⟨L, h1, -, rfl⟩ := h
  have := h1.map Prod.fst
  rw [List.zipIdx_map_fst] at this
  exact this
theorem StbS.sorted {l r : List Fp} (h : StbS l r) : r.Pairwise fun x y => cfP x y < 0 ∨ cfP x y = 0 := by
  obtain ⟨L, -, h2, rfl⟩ := h
  rw [List.pairwise_map]
  exact h2.imp fun h => by
    rcases h with h | ⟨h, -⟩
    · exact .inl h
    · exact .inr h
/-- Where what the comparison leaves open lies in this order, it does so behind the sort. -/
theorem StbS.stable {l r : List Fp} (h : StbS l r) {P : Fp → Fp → Prop} (hP : l.Pairwise fun x y => cfP x y = 0 → P x y) : r.Pairwise fun x y => cfP x y = 0 → P x y := by
  obtain ⟨L, h1, h2, rfl⟩ := h
  rw [List.pairwise_map]
  refine h2.imp_of_mem fun {x y} hx hy hxy hc => ?_
  rcases hxy with h | ⟨-, h⟩
  · rw [hc] at h; exact absurd h (by decide)
  · have mx := h1.mem_iff.1 hx
    have my := h1.mem_iff.1 hy
    obtain ⟨i, hi⟩ := List.mem_iff_getElem?.1 mx
    obtain ⟨j, hj⟩ := List.mem_iff_getElem?.1 my
    obtain ⟨il, hi⟩ := List.getElem?_eq_some_iff.1 hi
    obtain ⟨jl, hj⟩ := List.getElem?_eq_some_iff.1 hj
    rw [List.getElem_zipIdx] at hi hj
    subst hi
    subst hj
    have h : 0 + i < 0 + j := h
    rw [List.length_zipIdx] at il jl
    exact (List.pairwise_iff_getElem.1 hP) i j il jl (by omega) hc
set_option maxRecDepth 100000 in
theorem ins_none (w : World) : Calls Try.prog 78 #[.slice none 0 0, .int .i64 0, .int .i64 0, cmpV] w fun e w' => e = .returned (.tuple #[]) ∧ w = w' := by
  go_enter Try.func78, Try.ntmps78
  go_wp2_with fail
  refine wp_loop_rounds 1 ?_
  rw [rounds_succ]
  go_wp2_with fail
  go_end0
  exact ⟨rfl, rfl⟩
set_option maxRecDepth 100000 in
theorem stb_none (w : World) : Calls Try.prog 68 #[.slice none 0 0, .int .i64 0, cmpV] w fun e w' => e = .returned (.tuple #[]) ∧ w = w' := by
  have C := Lib.hid (ins_none w)
  go_enter Try.func68, Try.ntmps68
  go_wp2_with fail
  refine wp_loop_rounds 1 ?_
  rw [rounds_succ]
  go_wp2_with fail
  refine C.out.mono ?_
  rintro e w1 ⟨rfl, rfl⟩
  go_wp2_with fail
  refine wp_loop_rounds 1 ?_
  rw [rounds_succ]
  go_wp2_with fail
  go_end0
  exact ⟨rfl, rfl⟩
set_option maxHeartbeats 1000000 in
theorem ssf_any (base : Nat) (v : Value) (l : List Fp) (hl : l.length ≤ 100000000) (w : World) (h : OwnF w base v l) (hs : base ≤ w.heap.size) :
    Calls Try.prog 46 #[v, cmpV] w fun e w' => e = .returned (.tuple #[]) ∧ ∃ r, StbS l r ∧ OwnF w' base v r ∧ RowKit.Below base w w' := by
  rcases h.low with ⟨rfl, rfl⟩ | ⟨g, c, rfl, -⟩
  · have C := Lib.hid (stb_none w)
    have H := Lib.hid h
    clear h
    go_enter Try.func46, Try.ntmps46
    go_wp2_with fail
    refine C.out.mono ?_
    rintro e w1 ⟨rfl, rfl⟩
    clear C
    go_wp2_with fail
    go_end0
    exact ⟨rfl, [], ⟨[], List.Perm.refl _, List.Pairwise.nil, rfl⟩, H.out, RowKit.Below.refl _ _⟩
  · have hT : OwnT w base (.slice (some ⟨g, 0, none⟩) l.length c) l.zipIdx := OwnF.tell (by rw [List.zipIdx_map_fst]; exact h)
    have C := Lib.hid (stb_any base g c l.length hl l.zipIdx List.length_zipIdx (zip_opn l) w hT hs)
    clear h hT
    go_enter Try.func46, Try.ntmps46
    go_wp2_with fail
    refine C.out.mono ?_
    rintro e w1 ⟨rfl, L, p1, p2, o1, b1⟩
    have K : Hid (∃ r, StbS l r ∧ OwnF w1 base (.slice (some ⟨g, 0, none⟩) l.length c) r ∧ RowKit.Below base w w1) := Lib.hid ⟨L.map Prod.fst, ⟨L, p1, p2, rfl⟩, o1.own, b1⟩
    clear C p1 p2 o1 b1
    go_wp2_with fail
    go_end0
    exact ⟨rfl, K.out⟩
set_option maxHeartbeats 1000000 in
theorem sort_any (base : Nat) (v : Value) (l : List Fp) (hl : l.length ≤ 100000000) (w : World) (h : OwnF w base v l) (hs : base ≤ w.heap.size) :
    Calls Try.prog 37 #[v] w fun e w' => e = .returned (.tuple #[]) ∧ ∃ r, StbS l r ∧ OwnF w' base v r ∧ RowKit.Below base w w' := by
  have C := Lib.hid (ssf_any base v l hl w h hs)
  obtain ⟨A, c, rfl, -⟩ := ownK_shape h
  clear h
  go_enter Try.func37, Try.ntmps37
  go_wp2_with fail
  refine C.out.mono ?_
  rintro e w1 ⟨rfl, k⟩
  have K := Lib.hid k
  clear C k
  go_wp2_with fail
  go_end0
  exact ⟨rfl, K.out⟩

/-! ### The small functions -/
theorem iswalk_any (n : Int) (w : World) : Calls Try.prog 34 #[.int .i64 n] w fun e w' => e = .returned (.bool (decide (1 ≤ n ∧ n ≤ 14400))) ∧ w = w' := by
  by_cases h1 : 1 ≤ n
  · by_cases h2 : n ≤ 14400
    · have E := Lib.hid (decide_eq_true (p := 1 ≤ n ∧ n ≤ 14400) ⟨h1, h2⟩)
      go_enter Try.func34, Try.ntmps34
      go_wp2_with fail
      go_ret
      exact ⟨ret_bool E.out.symm, rfl⟩
    · have E := Lib.hid (decide_eq_false (p := 1 ≤ n ∧ n ≤ 14400) (fun h => h2 h.2))
      have d2 : decide (n ≤ 14400) = false := decide_eq_false h2
      clear h2
      go_enter Try.func34, Try.ntmps34
      go_wp2_with fail
      go_ret
      exact ⟨ret_bool E.out.symm, rfl⟩
  · have E := Lib.hid (decide_eq_false (p := 1 ≤ n ∧ n ≤ 14400) (fun h => h1 h.1))
    have d1 : decide (1 ≤ n) = false := decide_eq_false h1
    clear h1
    go_enter Try.func34, Try.ntmps34
    go_wp2_with fail
    go_ret
    exact ⟨ret_bool E.out.symm, rfl⟩
theorem isstop_any (a n : Int) (w : World) : Calls Try.prog 33 #[.int .i64 a, .int .i64 n] w fun e w' => e = .returned (.bool (decide (0 ≤ a ∧ a < n))) ∧ w = w' := by
  by_cases h1 : 0 ≤ a
  · by_cases h2 : a < n
    · have E := Lib.hid (decide_eq_true (p := 0 ≤ a ∧ a < n) ⟨h1, h2⟩)
      go_enter Try.func33, Try.ntmps33
      go_wp2_with fail
      go_ret
      exact ⟨ret_bool E.out.symm, rfl⟩
    · have E := Lib.hid (decide_eq_false (p := 0 ≤ a ∧ a < n) (fun h => h2 h.2))
      have d2 : decide (a < n) = false := decide_eq_false h2
      clear h2
      go_enter Try.func33, Try.ntmps33
      go_wp2_with fail
      go_ret
      exact ⟨ret_bool E.out.symm, rfl⟩
  · have E := Lib.hid (decide_eq_false (p := 0 ≤ a ∧ a < n) (fun h => h1 h.1))
    have d1 : decide (0 ≤ a) = false := decide_eq_false h1
    clear h1
    go_enter Try.func33, Try.ntmps33
    go_wp2_with fail
    go_ret
    exact ⟨ret_bool E.out.symm, rfl⟩
theorem usable_any (a b s : Int) (f sf : Bool) (w : World) : Calls Try.prog 29 #[fpV a b s f, .bool sf] w fun e w' => e = .returned (.bool (f || !sf)) ∧ Below w.heap.size w w' := by
  obtain ⟨w7, hw7⟩ : ∃ W, w.alloc (boxF a b s f) = W := ⟨_, rfl⟩
  obtain ⟨b7, p0, p1, p2, p3, s7, c7⟩ := box_fp hw7
  have B7 := Lib.hid b7
  clear b7 c7 s7
  cases f <;> cases sf
  all_goals
    go_enter Try.func29, Try.ntmps29
    go_wp2_with fail
    go_ret
    exact ⟨ret_bool rfl, B7.out⟩
end Go.Proofs.Ytibakhobgfiklaa
