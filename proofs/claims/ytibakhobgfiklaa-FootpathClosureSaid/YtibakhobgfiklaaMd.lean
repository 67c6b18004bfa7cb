/-
  Graphs: what an edge list is checked for, edges as cells, rows of ints and of structs made, read and stored into. Condition: none beyond each theorem's own hypotheses. The reference's Check, costs, turned of graphs: what each call answers; nothing that existed before the call has changed behind it. Condition: lists of fewer than 2^63 edges. The program's isNode and check of graphs: what each call answers; nothing that existed before the call has changed behind it. Condition: lists of fewer than 2^63 edges and nodes. What the functions about shortest paths answer, as functions of numbers and lists: no program. Condition: none beyond each theorem's own hypotheses. The reference's turned and costs of graphs: what each call answers; nothing that existed before the call has changed behind it. Condition: a checked graph. A map from ints to lists of edges that a call makes: what a look-up answers, what a store leaves; the rows behind it lie apart. Condition: keys are ints; fewer than 2^40 entries. The program's neighbors of a list of edges: a map that tells, for each node, the edges that leave it; nothing that existed before the call has changed behind it. Condition: at most 4096 edges of a checked graph. The closure reach of leastCosts: what it leaves of the costs and of the queue. Condition: a node of the graph; at most 10^6 elements in the queue. leastCosts: the row of costs as it is filled, the queue's least element, what a store into a node's box leaves. Condition: none beyond each theorem's own hypotheses. The program's leastCosts: the least costs from a node; nothing that existed before the call has changed behind it. Condition: a checked graph. The program's reversed and distances: what each call answers; nothing that existed before the call has changed behind it. Condition: a checked graph. The program's smallestNodes: the nodes of a least way, each time the least one that keeps the cost; nothing that existed before the call has changed behind it. Condition: a checked graph and its least costs to the end. The program's merge (the closure of Components) and numbers: what each call answers. Condition: a checked graph. The program's Distances, Path, Components: what each call answers; nothing that existed before the call has changed behind it. Condition: lists of fewer than 2^63 edges. Lists of lists of ints: slices of slices that a call makes or is handed. Condition: none beyond each theorem's own hypotheses. Lists of lists of ints; the program's All: what the call answers; nothing that existed before the call has changed behind it. Condition: lists of fewer than 2^63 edges.
-/
import Derived.Test.YtibakhobgfiklaaMa
import Derived.Test.YtibakhobgfiklaaMb
import Derived.Deep.OwnRows
import Derived.BigRegion
import Derived.Deep.RegionLaw
import Derived.Maps.OwnSet
import Derived.WalkArith
import Derived.Test.YtibakhobgfiklaaMc
import Derived.Lib.QuietBelow
namespace Go.Proofs.Ytibakhobgfiklaa
open Go.RowKit

/-! ### What is checked -/
/-- An edge as it comes in. -/
abbrev Er := Int × Int × Int
def chkE (n : Int) (e : Er) : Int := if e.1 < 0 ∨ n ≤ e.1 ∨ e.2.1 < 0 ∨ n ≤ e.2.1 then 9 else if e.2.2 < 0 ∨ 1073741824 < e.2.2 then 2 else 0
def chkL (n : Int) : List Er → Int
  | [] => 0
  | e :: l => if chkE n e = 0 then chkL n l else chkE n e
def chkR (n : Int) (l : List Er) : Int := if n < 0 ∨ 64 < n then 2 else if 4096 < l.length then 5 else chkL n l
def chkN (n : Int) : List Int → Int
  | [] => 0
  | x :: l => if x < 0 ∨ n ≤ x then 9 else chkN n l
theorem chkL_drop {n : Int} {l : List Er} {k : Nat} {e : Er} (h : l[k]? = some e) : chkL n (l.drop k) = if chkE n e = 0 then chkL n (l.drop (k + 1)) else chkE n e := by
  rw [drop_at l k e h]; rfl
theorem chkN_drop {n : Int} {l : List Int} {k : Nat} {x : Int} (h : l[k]? = some x) : chkN n (l.drop k) = if x < 0 ∨ n ≤ x then 9 else chkN n (l.drop (k + 1)) := by
  rw [drop_at l k x h]; rfl
/-- An edge of a checked graph as it came in. -/
def upE (e : Ed) : Er := ((e.1 : Int), (e.2.1 : Int), (e.2.2 : Int))
theorem chkE_ok {N : Nat} {e : Er} (h : chkE N e = 0) : ∃ d : Ed, e = upE d ∧ d.1 < N ∧ d.2.1 < N ∧ d.2.2 ≤ 1073741824 := by
  unfold chkE at h
  split at h
  · omega
  · split at h
    · omega
    · obtain ⟨a, b, c⟩ := e
      simp only at *
      refine ⟨(a.toNat, b.toNat, c.toNat), ?_, ?_, ?_, ?_⟩
      · unfold upE
        simp only
        rw [Int.toNat_of_nonneg (by omega), Int.toNat_of_nonneg (by omega), Int.toNat_of_nonneg (by omega)]
      · simp only; omega
      · simp only; omega
      · simp only; omega
theorem chkL_ok {N : Nat} : ∀ {l : List Er}, chkL N l = 0 → ∃ L : List Ed, l = L.map upE ∧ Inn L N ∧ ∀ e ∈ L, e.2.2 ≤ 1073741824
  | [], _ => ⟨[], rfl, (fun e he => by cases he), (fun e he => by cases he)⟩
  | e :: l, h => by
    unfold chkL at h
    split at h
    · next h0 =>
      obtain ⟨d, hd, h1, h2, h3⟩ := chkE_ok h0
      obtain ⟨L, hL, g1, g2⟩ := chkL_ok h
      refine ⟨d :: L, by rw [hd, hL]; rfl, fun x hx => ?_, fun x hx => ?_⟩
      · rcases List.mem_cons.1 hx with rfl | hx
        · exact ⟨h1, h2⟩
        · exact g1 x hx
      · rcases List.mem_cons.1 hx with rfl | hx
        · exact h3
        · exact g2 x hx
    · next h0 => exact absurd h h0
/-- What a checked graph is. -/
structure Graph (n : Int) (l : List Er) (N : Nat) (L : List Ed) : Prop where
  n_eq : n = (N : Int)
  le : N ≤ 64
  l_eq : l = L.map upE
  many : L.length ≤ 4096
  inn : Inn L N
  low : ∀ e ∈ L, e.2.2 ≤ 1073741824
theorem chkR_ok {n : Int} {l : List Er} (h : chkR n l = 0) : ∃ N L, Graph n l N L := by
  unfold chkR at h
  split at h
  · omega
  · split at h
    · omega
    · obtain ⟨N, rfl⟩ : ∃ N : Nat, n = (N : Int) := ⟨n.toNat, by omega⟩
      obtain ⟨L, hL, h1, h2⟩ := chkL_ok h
      exact ⟨N, L, rfl, by omega, hL, by have := congrArg List.length hL; rw [List.length_map] at this; omega, h1, h2⟩
theorem chkR_range (n : Int) (l : List Er) : chkR n l = 0 ∨ chkR n l = 2 ∨ chkR n l = 5 ∨ chkR n l = 9 := by
  have h : ∀ l : List Er, chkL n l = 0 ∨ chkL n l = 2 ∨ chkL n l = 9 := by
    intro l
    induction l with
    | nil => exact .inl rfl
    | cons e l ih =>
      unfold chkL
      split
      · exact ih
      · unfold chkE; split
        · exact .inr (.inr rfl)
        · split
          · exact .inr (.inl rfl)
          · exact .inl rfl
  unfold chkR
  split
  · exact .inr (.inl rfl)
  · split
    · exact .inr (.inr (.inl rfl))
    · rcases h l with x | x | x <;> simp [x]
theorem Graph.turn {n : Int} {l : List Er} {N : Nat} {L : List Ed} (h : Graph n l N L) : Inn (turnL L) N ∧ ∀ e ∈ turnL L, e.2.2 ≤ 1073741824 := by
  refine ⟨h.inn.turn, fun e he => ?_⟩
  obtain ⟨x, hx, rfl⟩ := List.mem_map.1 he
  exact h.low x hx

/-! ### Edges in memory -/
/-- An edge as it came in, as cells. -/
def er (e : Er) : List Value := [.int .i64 e.1, .int .i64 e.2.1, .int .i64 e.2.2]
theorem er_len (e : Er) : (er e).length = 3 := rfl
theorem er_one (e : Er) : ∀ u ∈ er e, u.oneCell' = true := by
  intro u hu
  simp [er] at hu
  rcases hu with rfl | rfl | rfl <;> rfl
/-- An edge of a checked graph, as cells. -/
def de (e : Ed) : List Value := [.int .i64 (e.1 : Int), .int .i64 (e.2.1 : Int), .int .i64 (e.2.2 : Int)]
theorem de_len (e : Ed) : (de e).length = 3 := rfl
theorem de_one (e : Ed) : ∀ u ∈ de e, u.oneCell' = true := by
  intro u hu
  simp [de] at hu
  rcases hu with rfl | rfl | rfl <;> rfl
abbrev LstR := @LstG Er er
abbrev LstD := @LstG Ed de
theorem fl_up (L : List Ed) : fl er (L.map upE) = fl de L := by
  induction L with
  | nil => rfl
  | cons a r ih => rw [List.map_cons, fl_cons, fl_cons, ih]; rfl
theorem LstG.down {w : World} {v : Value} {L : List Ed} (h : LstR w v (L.map upE)) : LstD w v L := by
  obtain ⟨A, c, hv, hc, hn, hx⟩ := h
  rw [fl_up] at hx
  rw [List.length_map] at hv hc hx
  exact ⟨A, c, hv, hc, hn, hx⟩
theorem info_ed : (Try.prog.info? 90).map (fun i => (i.zero, i.size, i.bytes)) = some (some (.agg #[.int .i64 0, .int .i64 0, .int .i64 0]), 3, 24) := by kernel_rfl
/-- The three cells of an element. -/
theorem three_at {α : Type} {enc : α → List Value} (hk : ∀ a, (enc a).length = 3) {w : World} {A : Option Addr} {n c : Nat} {l : List α} (h : LstG enc w (.slice A n c) l) {i : Nat} {e : α} (hs : l[i]? = some e) {x y z : Value} (he : enc e = [x, y, z]) :
    ∃ b o, A = some ⟨b, o, none⟩ ∧ b < w.heap.size ∧ w.cell? ⟨b, o + i * 3, none⟩ = some x ∧ w.cell? ⟨b, o + i * 3 + 1, none⟩ = some y ∧ w.cell? ⟨b, o + i * 3 + 2, none⟩ = some z := by
  obtain ⟨A', c', hv, _, _, hx⟩ := h
  cases hv
  have hi := (List.getElem?_eq_some_iff.1 hs).1
  obtain ⟨b, o, rfl, hb, hcell⟩ := hx (by omega)
  refine ⟨b, o, rfl, hb, hcell (i * 3) _ (by rw [← Nat.add_zero (i * 3), fl_at hk hs 0 (by omega), he]; rfl), (hcell (i * 3 + 1) _ (by rw [fl_at hk hs 1 (by omega), he]; rfl) : _), (hcell (i * 3 + 2) _ (by rw [fl_at hk hs 2 (by omega), he]; rfl) : _)⟩
/-- A cost as cells. -/
def cc (c : Ct) : List Value := [.int .i64 c.1, .int .i64 c.2]
theorem cc_len (c : Ct) : (cc c).length = 2 := rfl
theorem info_ct : (Try.prog.info? 101).map (fun i => (i.zero, i.size, i.bytes)) = some (some (.agg #[.int .i64 0, .int .i64 0]), 2, 16) := by kernel_rfl
abbrev OwnC := @OwnG Ct cc 101 2
abbrev LstC := @LstG Ct cc
/-- The two cells of an element. -/
theorem two_at {w : World} {A : Option Addr} {n c : Nat} {l : List Ct} (h : LstC w (.slice A n c) l) {i : Nat} {e : Ct} (hs : l[i]? = some e) :
    ∃ b o, A = some ⟨b, o, none⟩ ∧ b < w.heap.size ∧ w.cell? ⟨b, o + i * 2, none⟩ = some (.int .i64 e.1) ∧ w.cell? ⟨b, o + i * 2 + 1, none⟩ = some (.int .i64 e.2) := by
  obtain ⟨A', c', hv, _, _, hx⟩ := h
  cases hv
  have hi := (List.getElem?_eq_some_iff.1 hs).1
  obtain ⟨b, o, rfl, hb, hcell⟩ := hx (by omega)
  exact ⟨b, o, rfl, hb, hcell (i * 2) _ (by rw [← Nat.add_zero (i * 2), fl_at cc_len hs 0 (by omega)]; rfl), (hcell (i * 2 + 1) _ (by rw [fl_at cc_len hs 1 (by omega)]; rfl) : _)⟩
/-- An int of a row. -/
theorem int_cell {w : World} {A : Option Addr} {n c : Nat} {l : List Int} (h : LstI w (.slice A n c) l) {i : Nat} {x : Int} (hs : l[i]? = some x) :
    ∃ b o, A = some ⟨b, o, none⟩ ∧ b < w.heap.size ∧ w.cell? ⟨b, o + i, none⟩ = some (.int .i64 x) := by
  obtain ⟨A', c', hv, _, _, hx⟩ := h
  cases hv
  have hi := (List.getElem?_eq_some_iff.1 hs).1
  obtain ⟨b, o, rfl, hb, hcell⟩ := hx (by omega)
  exact ⟨b, o, rfl, hb, hcell i _ (ints_at l i x hs)⟩

/-! ### Rows made and stored into -/
/-- A row of ints with its cells: at a block of its own. -/
def RowI (w : World) (g : Nat) (l : List Int) : Prop := ∃ cap, OwnI w g (.slice (some ⟨g, 0, none⟩) l.length cap) l
theorem fl_rep {α : Type} (enc : α → List Value) (a : α) : ∀ n, fl enc (List.replicate n a) = (List.replicate n (enc a)).flatten
  | 0 => rfl
  | n + 1 => by rw [List.replicate_succ, fl_cons, fl_rep enc a n, List.replicate_succ, List.flatten_cons]
theorem flat_at (xs : List Value) (k0 : 0 < xs.length) : ∀ (n i : Nat), i < n * xs.length → ((List.replicate n xs).flatten)[i]? = xs[i % xs.length]?
  | 0, i, h => by omega
  | n + 1, i, h => by
    rw [List.replicate_succ, List.flatten_cons, List.getElem?_append]
    split
    · next h1 => rw [Nat.mod_eq_of_lt h1]
    · next h1 =>
      rw [flat_at xs k0 n (i - xs.length) (by rw [Nat.add_mul] at h; omega)]
      congr 1
      rw [← Nat.mod_eq_sub_mod (by omega)]
/-- make([]T, n). -/
theorem mkG_run {α : Type} {enc : α → List Value} {k : Nat} {ST T : TypeId} {z : Value} {bytes : Nat} (hk : ∀ a, (enc a).length = k) (k0 : 0 < k) (hu : Try.prog.underlying ST = some (.slice T)) (hinfo : (Try.prog.info? T).map (fun i => (i.zero, i.size, i.bytes)) = some (some z, k, bytes)) (a0 : α) (hz0 : z.cells.toList = enc a0) (n : Nat) (hn : n * bytes ≤ 281474976710656) (hn2 : n ≤ 281474976710656) (e : Int) (he : e = n) (W : World) :
    (Instr.makeSlice ST (.int .i64 e) (.int .i64 e)).run Try.prog W = .ok (.slice (some ⟨W.heap.size, 0, none⟩) n n) (W.alloc (.cells (fl enc (List.replicate n a0)).toArray T (0, 0))) := by
  subst he
  obtain ⟨i, hi, hz, hsz, hby⟩ := info_parts hinfo
  have h := run_make (P := Try.prog) W ST T i _ hu hi hz .i64 .i64 n n (by omega) (by omega) (by rw [hby, ← Int.natCast_mul]; rw [Nat.mul_comm] at hn; omega) (by omega)
  rw [h, hsz]
  have e2 : madeCells z.cells (n * k) = (fl enc (List.replicate n a0)).toArray := by
    have hzs : z.cells.size = k := by rw [← Array.length_toList, hz0, hk]
    rw [fl_rep, ← hz0]
    have hl : ((List.replicate n z.cells.toList).flatten).length = n * k := by rw [List.length_flatten, List.map_replicate, List.sum_replicate_nat, Array.length_toList, hzs]
    unfold madeCells
    apply Array.ext_getElem?
    intro i
    by_cases hi : i < n * k
    · have h1 := flat_at z.cells.toList (by rw [Array.length_toList, hzs]; exact k0) n i (by rw [Array.length_toList, hzs]; exact hi)
      have e3 : ((List.replicate n z.cells.toList).flatten).toArray[i]? = ((List.replicate n z.cells.toList).flatten)[i]? := by simp
      rw [e3, h1, Array.length_toList, hzs]
      simp [hi]
      have : i % k < z.cells.size := by rw [hzs]; exact Nat.mod_lt _ k0
      rw [getElem!_pos z.cells _ this]
      exact (Array.getElem?_eq_getElem this).symm
    · rw [Array.getElem?_eq_none (by simpa using hi), Array.getElem?_eq_none (by simp only [List.size_toArray, hl]; omega)]
  simp only [Int.toNat_natCast]
  rw [e2]
theorem ownG_made {α : Type} {enc : α → List Value} {k : Nat} {T : TypeId} (hk : ∀ a, (enc a).length = k) (W : World) {base : Nat} (hb : base ≤ W.heap.size) (l : List α) (hl : l.length ≤ maxLen) : OwnG enc T k (W.alloc (.cells (fl enc l).toArray T (0, 0))) base (.slice (some ⟨W.heap.size, 0, none⟩) l.length l.length) l := by
  refine ⟨by rw [fl_len hk], .inr ⟨W.heap.size, l.length, (fl enc l).toArray, rfl, hb, heap_alloc_new _ _, Nat.le_refl _, hl, ?_, ?_⟩⟩
  · rw [List.size_toArray, fl_len hk]
  · show (fl enc l).take _ = _
    rw [List.take_of_length_le (by rw [fl_len hk]; exact Nat.le_refl _)]
/-- Ints as a row of one-cell elements. -/
def ic (x : Int) : List Value := [.int .i64 x]
theorem ic_len (x : Int) : (ic x).length = 1 := rfl
theorem fl_ic (l : List Int) : fl ic l = ints l := by
  induction l with
  | nil => rfl
  | cons a r ih => rw [fl_cons, ih]; rfl
theorem OwnG.ints {w : World} {base : Nat} {v : Value} {l : List Int} (h : OwnG ic 3 1 w base v l) : OwnI w base v l := by
  unfold OwnG at h
  rw [fl_ic] at h
  exact h
theorem info_int' : (Try.prog.info? 3).map (fun i => (i.zero, i.size, i.bytes)) = some (some (.int .i64 0), 1, 8) := info_int
/-- A new row of zeros. -/
theorem mkI_run (n : Nat) (hn : n ≤ 4096) (e : Int) (he : e = n) (W : World) : (Instr.makeSlice 39 (.int .i64 e) (.int .i64 e)).run Try.prog W = .ok (.slice (some ⟨W.heap.size, 0, none⟩) n n) (W.alloc (.cells (ints (List.replicate n 0)).toArray 3 (0, 0))) := by
  have := mkG_run (enc := ic) (k := 1) ic_len (by decide) Try.underlying39 info_int (0 : Int) rfl n (by omega) (by omega) e he W
  rw [fl_ic] at this
  exact this
theorem ownI_made (W : World) {base : Nat} (hb : base ≤ W.heap.size) (l : List Int) (hl : l.length ≤ maxLen) : OwnI (W.alloc (.cells (ints l).toArray 3 (0, 0))) base (.slice (some ⟨W.heap.size, 0, none⟩) l.length l.length) l := by
  have h := ownG_made (enc := ic) (T := 3) ic_len W hb l hl
  rw [fl_ic] at h
  exact h.ints
theorem fl_set {α : Type} {enc : α → List Value} (h2 : ∀ a, ∃ x y, enc a = [x, y]) : ∀ (l : List α) (i : Nat) (a : α) (x y : Value), enc a = [x, y] → i < l.length → ((fl enc l).set (i * 2) x).set (i * 2 + 1) y = fl enc (l.set i a)
  | [], _, _, _, _, _, hi => by simp at hi
  | b :: r, 0, a, x, y, he, _ => by
    obtain ⟨u, v, hb⟩ := h2 b
    rw [fl_cons, List.set_cons_zero, fl_cons, he, hb]
    rfl
  | b :: r, i + 1, a, x, y, he, hi => by
    obtain ⟨u, v, hb⟩ := h2 b
    rw [List.set_cons_succ, fl_cons, fl_cons, ← fl_set h2 r i a x y he (by simpa using hi), hb]
    rw [show (i + 1) * 2 = i * 2 + 1 + 1 by omega, show i * 2 + 1 + 1 + 1 = (i * 2 + 1) + 1 + 1 by omega]
    rfl
/-- A cost stored. -/
theorem OwnC.put {w : World} {base g c : Nat} {l : List Ct} (h : OwnC w base (.slice (some ⟨g, 0, none⟩) l.length c) l) {i : Nat} (hi : i < l.length) (a : Ct) : OwnC ((w.setCell ⟨g, i * 2, none⟩ (.int .i64 a.1)).setCell ⟨g, i * 2 + 1, none⟩ (.int .i64 a.2)) base (.slice (some ⟨g, 0, none⟩) l.length c) (l.set i a) := by
  have h1 := (World.ownsRow.stored h (i * 2) (.int .i64 a.1)).1
  have h2 := (World.ownsRow.stored h1 (i * 2 + 1) (.int .i64 a.2)).1
  rw [fl_set (enc := cc) (fun a => ⟨_, _, rfl⟩) l i a _ _ rfl hi] at h2
  show World.ownsRow _ base _ 2 _ (l.set i a).length (fl cc (l.set i a))
  rw [List.length_set]
  exact h2
theorem OwnC.at {w : World} {base g c : Nat} {l : List Ct} (h : OwnC w base (.slice (some ⟨g, 0, none⟩) l.length c) l) {i : Nat} {a : Ct} (ha : l[i]? = some a) :
    w.cell? ⟨g, i * 2, none⟩ = some (.int .i64 a.1) ∧ w.cell? ⟨g, i * 2 + 1, none⟩ = some (.int .i64 a.2) ∧ w.frozen? ⟨g, i * 2, none⟩ = false ∧ w.frozen? ⟨g, i * 2 + 1, none⟩ = false := by
  have hi := (List.getElem?_eq_some_iff.1 ha).1
  refine ⟨?_, ?_, World.ownsRow.frozenAt h _, World.ownsRow.frozenAt h _⟩
  · rw [World.ownsRow.cellAt h _ (by omega)]; exact fl_at cc_len ha 0 (by omega)
  · rw [World.ownsRow.cellAt h _ (by omega)]; exact fl_at cc_len ha 1 (by omega)
end Go.Proofs.Ytibakhobgfiklaa
namespace Go.Proofs.Ytibakhobgfiklaa
open Go.RowKit

theorem chk_far {n : Int} {l : List Er} (h : n < 0 ∨ 64 < n) : chkR n l = 2 := by unfold chkR; rw [if_pos h]
theorem chk_many {n : Int} {l : List Er} (h : ¬ (n < 0 ∨ 64 < n)) (h2 : 4096 < l.length) : chkR n l = 5 := by unfold chkR; rw [if_neg h, if_pos h2]
theorem chk_list {n : Int} {l : List Er} (h : ¬ (n < 0 ∨ 64 < n)) (h2 : ¬ 4096 < l.length) : chkR n l = chkL n l := by unfold chkR; rw [if_neg h, if_neg h2]
theorem chkE_node {n : Int} {e : Er} (h : e.1 < 0 ∨ n ≤ e.1 ∨ e.2.1 < 0 ∨ n ≤ e.2.1) : chkE n e = 9 := by unfold chkE; rw [if_pos h]
theorem chkE_low {n : Int} {e : Er} (h : ¬ (e.1 < 0 ∨ n ≤ e.1 ∨ e.2.1 < 0 ∨ n ≤ e.2.1)) (h2 : e.2.2 < 0 ∨ 1073741824 < e.2.2) : chkE n e = 2 := by unfold chkE; rw [if_neg h, if_pos h2]
theorem chkE_none {n : Int} {e : Er} (h : ¬ (e.1 < 0 ∨ n ≤ e.1 ∨ e.2.1 < 0 ∨ n ≤ e.2.1)) (h2 : ¬ (e.2.2 < 0 ∨ 1073741824 < e.2.2)) : chkE n e = 0 := by unfold chkE; rw [if_neg h, if_neg h2]
end Go.Proofs.Ytibakhobgfiklaa
namespace Go.Proofs.Ytibakhobgfiklaa
open Go.RowKit

/-- The node is one of n. -/
def isN (n x : Int) : Bool := decide (0 ≤ x ∧ x < n)
theorem isNode_any (n x : Int) (w : World) : Calls Try.prog 75 #[.int .i64 n, .int .i64 x] w fun e w' => e = .returned (.bool (isN n x)) ∧ w = w' := by
  by_cases h1 : 0 ≤ x
  · by_cases h2 : x < n
    · have R : Hid (isN n x = true) := decide_eq_true ⟨h1, h2⟩
      go_enter Try.func75, Try.ntmps75
      go_wp2_with fail
      go_ret
      exact ⟨ret_bool (by rw [R.out]), rfl⟩
    · have R : Hid (isN n x = false) := decide_eq_false fun h => h2 h.2
      have d2 : decide (x < n) = false := decide_eq_false h2
      clear h2
      go_enter Try.func75, Try.ntmps75
      go_wp2_with fail
      go_ret
      exact ⟨ret_bool (by rw [R.out]), rfl⟩
  · have R : Hid (isN n x = false) := decide_eq_false fun h => h1 h.1
    have d1 : decide (0 ≤ x) = false := decide_eq_false h1
    clear h1
    go_enter Try.func75, Try.ntmps75
    go_wp2_with fail
    go_ret
    exact ⟨ret_bool (by rw [R.out]), rfl⟩
theorem isN_false {n x : Int} (h : isN n x = false) : x < 0 ∨ n ≤ x := by
  unfold isN at h
  have := of_decide_eq_false h
  omega
theorem isN_true {n x : Int} (h : isN n x = true) : 0 ≤ x ∧ x < n := of_decide_eq_true h
/-- What check answers. -/
def chkK (n : Int) (l : List Er) (m : List Int) : Int := if chkR n l = 0 then chkN n m else chkR n l
theorem chkK_bad {n : Int} {l : List Er} {m : List Int} (h : chkR n l ≠ 0) : chkK n l m = chkR n l := by unfold chkK; rw [if_neg h]
theorem chkK_ok {n : Int} {l : List Er} {m : List Int} (h : chkR n l = 0) : chkK n l m = chkN n m := by unfold chkK; rw [if_pos h]
set_option maxRecDepth 100000 in
set_option maxHeartbeats 4000000 in
theorem check_any (n : Int) (v u : Value) (l : List Er) (m : List Int) (hl : l.length ≤ 9223372036854775807) (hm : m.length ≤ 4096) (w : World) (h : LstR w v l) (hu : LstI w u m) : Calls Try.prog 61 #[.int .i64 n, v, u] w fun e w' => e = .returned (.int .i64 (chkK n l m)) ∧ Below w.heap.size w w' := by
  have H := Lib.hid h
  have U := Lib.hid hu
  obtain ⟨A, c, rfl, -, -, -⟩ := h
  obtain ⟨A2, c2, rfl, -, -, -⟩ := hu
  by_cases h1 : n < 0
  · have R : Hid (chkK n l m = 2) := by rw [chkK_bad (by rw [chk_far (.inl h1)]; decide), chk_far (.inl h1)]; rfl
    go_enter Try.func61, Try.ntmps61
    go_wp2_with fail
    go_ret
    exact ⟨ret_int R.out.symm, Below.refl _ _⟩
  have d1 : decide (n < 0) = false := decide_eq_false h1
  by_cases h2 : 64 < n
  · have R : Hid (chkK n l m = 2) := by rw [chkK_bad (by rw [chk_far (.inr h2)]; decide), chk_far (.inr h2)]; rfl
    clear h1
    go_enter Try.func61, Try.ntmps61
    go_wp2_with fail
    go_ret
    exact ⟨ret_int R.out.symm, Below.refl _ _⟩
  have d2 : decide (64 < n) = false := decide_eq_false h2
  have h12 : ¬ (n < 0 ∨ 64 < n) := by omega
  by_cases h3 : 4096 < l.length
  · have R : Hid (chkK n l m = 5) := by rw [chkK_bad (by rw [chk_many h12 h3]; decide), chk_many h12 h3]; rfl
    have g : (4096 : Int) < (l.length : Int) := by omega
    clear h1 h2 h12 h3
    go_enter Try.func61, Try.ntmps61
    go_wp2_with fail
    go_ret
    exact ⟨ret_int R.out.symm, Below.refl _ _⟩
  have d3 : decide ((4096 : Int) < (l.length : Int)) = false := by rw [decide_eq_false_iff_not]; omega
  have R := Lib.hid (chk_list h12 h3)
  have hl2 : l.length ≤ 4096 := by omega
  have n0 : (0 : Int) ≤ n := by omega
  have n1 : n ≤ 64 := by omega
  have IS := Lib.hid (fun x W => isNode_any n x W)
  clear h1 h2 h12 h3
  go_enter Try.func61, Try.ntmps61
  go_wp2_with fail
  go_loopw [22] (fun i wr => ∃ k : Nat, i = .int .i64 k ∧ k ≤ l.length ∧ Hid (chkL n l = chkL n (l.drop k)) ∧ Hid (Below w.heap.size w wr)) (fun i _ => l.length - (intOf i).toNat)
  case atStart => exact ⟨0, rfl, Nat.zero_le _, Lib.hid rfl, Lib.hid (Below.refl _ _)⟩
  case round =>
    clear d1 d2 d3
    obtain ⟨k, rfl, hk, hr, HB⟩ := hrel
    by_cases hlt : k < l.length
    · obtain ⟨e, he⟩ := at_lt hlt
      obtain ⟨b, o, rfl, hb, m0, m1, m2⟩ := three_at er_len H.out he rfl
      obtain ⟨x, y, z⟩ := e
      simp only at m0 m1 m2
      have r0 := (HB.out.cell (p := ⟨b, o + k * 3, none⟩) hb).trans m0
      have r1 := (HB.out.cell (p := ⟨b, o + k * 3 + 1, none⟩) hb).trans m1
      have r2 := (HB.out.cell (p := ⟨b, o + k * 3 + 2, none⟩) hb).trans m2
      have hd := hr.out.trans (chkL_drop (n := n) he)
      have gk : (k : Int) < (l.length : Int) := by omega
      have hz := HB.out.size
      have B1 : Hid (∀ o, Below w.heap.size w (wr.alloc o)) := fun o => HB.out.alloc hz o
      clear he hr m0 m1 m2 HB
      have X := Lib.hid (fun W => IS.out x W)
      have Y := Lib.hid (fun W => IS.out y W)
      cases hx : isN n x with
      | false =>
        have E : Hid (chkK n l m = 9) := by
          have a := isN_false hx
          have : chkL n l = 9 := by rw [hd, chkE_node (by show x < 0 ∨ n ≤ x ∨ y < 0 ∨ n ≤ y; omega)]; rfl
          rw [chkK_bad (by rw [R.out, this]; decide), R.out, this]; rfl
        rw [hx] at X
        clear hd hx Y IS
        go_wp2_with fail
        refine (X.out _).mono ?_
        rintro e w' ⟨rfl, rfl⟩
        go_wp2_with fail
        go_ret
        exact ⟨ret_int E.out.symm, B1.out _⟩
      | true =>
        rw [hx] at X
        cases hy : isN n y with
        | false =>
          have E : Hid (chkK n l m = 9) := by
            have a := isN_false hy
            have : chkL n l = 9 := by rw [hd, chkE_node (by show x < 0 ∨ n ≤ x ∨ y < 0 ∨ n ≤ y; omega)]; rfl
            rw [chkK_bad (by rw [R.out, this]; decide), R.out, this]; rfl
          rw [hy] at Y
          clear hd hx hy IS
          go_wp2_with fail
          refine (X.out _).mono ?_
          rintro e w' ⟨rfl, rfl⟩
          go_wp2_with fail
          refine (Y.out _).mono ?_
          rintro e w' ⟨rfl, rfl⟩
          go_wp2_with fail
          go_ret
          exact ⟨ret_int E.out.symm, B1.out _⟩
        | true =>
          rw [hy] at Y
          have a5 : ¬ (x < 0 ∨ n ≤ x ∨ y < 0 ∨ n ≤ y) := by have := isN_true hx; have := isN_true hy; omega
          clear hx hy IS
          by_cases a6 : z < 0
          · have E : Hid (chkK n l m = 2) := by
              have : chkL n l = 2 := by rw [hd, chkE_low a5 (.inl a6)]; rfl
              rw [chkK_bad (by rw [R.out, this]; decide), R.out, this]; rfl
            clear hd a5
            go_wp2_with fail
            refine (X.out _).mono ?_
            rintro e w' ⟨rfl, rfl⟩
            go_wp2_with fail
            refine (Y.out _).mono ?_
            rintro e w' ⟨rfl, rfl⟩
            go_wp2_with fail
            go_ret
            exact ⟨ret_int E.out.symm, B1.out _⟩
          have f6 : decide (z < 0) = false := decide_eq_false a6
          by_cases a7 : 1073741824 < z
          · have E : Hid (chkK n l m = 2) := by
              have : chkL n l = 2 := by rw [hd, chkE_low a5 (.inr a7)]; rfl
              rw [chkK_bad (by rw [R.out, this]; decide), R.out, this]; rfl
            clear hd a5 a6
            go_wp2_with fail
            refine (X.out _).mono ?_
            rintro e w' ⟨rfl, rfl⟩
            go_wp2_with fail
            refine (Y.out _).mono ?_
            rintro e w' ⟨rfl, rfl⟩
            go_wp2_with fail
            go_ret
            exact ⟨ret_int E.out.symm, B1.out _⟩
          have f7 : decide (1073741824 < z) = false := decide_eq_false a7
          have E : Hid (chkL n l = chkL n (l.drop (k + 1))) := by
            show _ = _
            rw [hd, chkE_none a5 (by show ¬ (z < 0 ∨ 1073741824 < z); omega), if_pos rfl]
          clear hd a5 a6 a7
          go_wp2_with fail
          refine (X.out _).mono ?_
          rintro e w' ⟨rfl, rfl⟩
          go_wp2_with fail
          refine (Y.out _).mono ?_
          rintro e w' ⟨rfl, rfl⟩
          go_wp2_with fail
          go_roundw
          case rel => exact ⟨k + 1, by go_num, by omega, E, Lib.hid (B1.out _)⟩
          case measure => simp [intOf]; omega
    · have E : Hid (chkK n l m = chkN n m) := by
        rw [chkK_ok (by rw [R.out, hr.out, List.drop_of_length_le (by omega)]; rfl)]; rfl
      have d : decide (k < l.length) = false := by rw [decide_eq_false_iff_not]; exact hlt
      clear hlt hr
      go_wp2_with fail
      go_loopw [49] (fun i wr' => ∃ q : Nat, i = .int .i64 q ∧ q ≤ m.length ∧ Hid (chkN n m = chkN n (m.drop q)) ∧ wr = wr') (fun i _ => m.length - (intOf i).toNat)
      case atStart => exact ⟨0, rfl, Nat.zero_le _, Lib.hid rfl, rfl⟩
      case round =>
        obtain ⟨q, rfl, hq, hr, rfl⟩ := hrel
        by_cases hlt : q < m.length
        · obtain ⟨x, hx⟩ := at_lt hlt
          obtain ⟨b, o, rfl, hb, m0⟩ := int_cell U.out hx
          have r0 := (HB.out.cell (p := ⟨b, o + q, none⟩) hb).trans m0
          have hd := hr.out.trans (chkN_drop (n := n) hx)
          have gk : (q : Int) < (m.length : Int) := by omega
          clear hx hr m0
          have X := Lib.hid (fun W => IS.out x W)
          cases hx : isN n x with
          | false =>
            rw [hx] at X
            have F : Hid (chkK n l m = 9) := by rw [E.out, hd, if_pos (isN_false hx)]; rfl
            clear hd hx
            go_wp2_with fail
            refine (X.out _).mono ?_
            rintro e w' ⟨rfl, rfl⟩
            go_wp2_with fail
            go_ret
            exact ⟨ret_int F.out.symm, HB.out⟩
          | true =>
            rw [hx] at X
            have F : Hid (chkN n m = chkN n (m.drop (q + 1))) := by
              show _ = _
              rw [hd, if_neg (by have := isN_true hx; omega)]
            clear hd hx
            go_wp2_with fail
            refine (X.out _).mono ?_
            rintro e w' ⟨rfl, rfl⟩
            go_wp2_with fail
            go_roundw
            case rel => exact ⟨q + 1, by go_num, by omega, F, trivial⟩
            case measure => simp [intOf]; omega
        · have F : Hid (chkK n l m = 0) := by rw [E.out, hr.out, List.drop_of_length_le (by omega)]; rfl
          have d : decide (q < m.length) = false := by rw [decide_eq_false_iff_not]; exact hlt
          clear hlt hr
          go_wp2_with fail
          go_ret
          exact ⟨ret_int F.out.symm, HB.out⟩
end Go.Proofs.Ytibakhobgfiklaa
namespace Go.Proofs.Ytibakhobgfiklaa
open Go

def dnE (e : Er) : Ed := (e.1.toNat, e.2.1.toNat, e.2.2.toNat)
theorem Graph.down {n : Int} {l : List Er} {N : Nat} {L : List Ed} (h : Graph n l N L) : l.map dnE = L ∧ n.toNat = N := by
  refine ⟨?_, by rw [h.n_eq]; rfl⟩
  rw [h.l_eq, List.map_map]
  have : (dnE ∘ upE) = id := by
    funext e
    rfl
  rw [this, List.map_id]
/-- The node after a, as the reference finds it. -/
def ndR (L : List Ed) (d : List Int) (s : Nat) : Nat → Nat
  | 0 => s
  | j + 1 => (nxtR L d (ndR L d s j)).toNat
def pathR (L : List Ed) (d : List Int) (s k : Nat) : List Int := (List.range k).map fun j => ((ndR L d s j : Nat) : Int)
theorem ndR_nd {L : List Ed} {n b : Nat} {lab : List Ct} (h : Lc (turnL L) n b lab) (hn : n ≤ 64) (hb : b < n) (hl : Inn L n) {s c : Nat} (hs : s < n) (hm : Mn 128 L b s c) (ha : gl lab s = (((c / 128 : Nat) : Int), ((c % 128 : Nat) : Int))) (hd : (costL n L b).getD s (-1) = (c : Int)) (hc : c / 128 < 68719476736) :
    ∀ j, j ≤ c % 128 → ndR L (costL n L b) s j = nd L lab s j := by
  intro j
  induction j with
  | zero => intro _; rfl
  | succ j ih =>
    intro hj
    obtain ⟨h1, x, x1, x2, x3, x4, x5⟩ := h.path hn hb hl hs hm ha hd hc j (by omega)
    obtain ⟨w, c', e1, e2, e3, e4, e5, e6, e7, e8⟩ := h.next hn hb hl x1 x2 x3 x4 (by omega)
    show (nxtR L (costL n L b) (ndR L (costL n L b) s j)).toNat = nxt L lab (nd L lab s j)
    rw [ih (by omega), e8]
    rfl
theorem pathR_eq {L : List Ed} {n b : Nat} {lab : List Ct} (h : Lc (turnL L) n b lab) (hn : n ≤ 64) (hb : b < n) (hl : Inn L n) {s c : Nat} (hs : s < n) (hm : Mn 128 L b s c) (ha : gl lab s = (((c / 128 : Nat) : Int), ((c % 128 : Nat) : Int))) (hd : (costL n L b).getD s (-1) = (c : Int)) (hc : c / 128 < 68719476736) :
    pathR L (costL n L b) s (c % 128 + 1) = pathN L lab s (c % 128 + 1) := by
  unfold pathR pathN
  apply List.map_congr_left
  intro j hj
  rw [ndR_nd h hn hb hl hs hm ha hd hc j (by have := List.mem_range.1 hj; omega)]
/-- The distances from a. -/
def ansD (n : Int) (l : List Er) (a : Int) : List Int := if chkK n l [a] = 0 then distL n.toNat (l.map dnE) a.toNat else []
/-- All distances. -/
def ansA (n : Int) (l : List Er) : List (List Int) := if chkR n l = 0 then (List.range n.toNat).map (distL n.toNat (l.map dnE)) else []
/-- The components. -/
def ansC (n : Int) (l : List Er) : List Int := if chkR n l = 0 then compL (firstL n.toNat (l.map dnE)) else []
/-- The path: its nodes, its length, the error. -/
def ansP (n : Int) (l : List Er) (a b : Int) : List Int × Int × Int :=
  if chkK n l [a, b] = 0 then
    (if (costL n.toNat (l.map dnE) b.toNat).getD a.toNat (-1) < 0 then ([], 0, 7) else (pathR (l.map dnE) (costL n.toNat (l.map dnE) b.toNat) a.toNat (((costL n.toNat (l.map dnE) b.toNat).getD a.toNat (-1)).toNat % 128 + 1), (costL n.toNat (l.map dnE) b.toNat).getD a.toNat (-1) / 128, 0))
  else ([], 0, chkK n l [a, b])
theorem chkK_zero {n : Int} {l : List Er} {m : List Int} (h : chkK n l m = 0) : chkR n l = 0 ∧ chkN n m = 0 := by
  unfold chkK at h
  split at h
  · next h0 => exact ⟨h0, h⟩
  · next h0 => exact absurd h h0
theorem chkN_zero {n : Int} : ∀ {m : List Int}, chkN n m = 0 → ∀ x ∈ m, 0 ≤ x ∧ x < n
  | [], _ => fun x hx => by cases hx
  | y :: m, h => by
    unfold chkN at h
    split at h
    · omega
    · intro x hx
      rcases List.mem_cons.1 hx with rfl | hx
      · omega
      · exact chkN_zero h x hx
theorem chkK_nil (n : Int) (l : List Er) : chkK n l [] = chkR n l := by
  unfold chkK
  split
  · next h => rw [h]; rfl
  · rfl
theorem ansD_ok {n : Int} {l : List Er} {N b : Nat} {L : List Ed} (g : Graph n l N L) (h : chkK n l [(b : Int)] = 0) : ansD n l b = distL N L b := by
  unfold ansD
  rw [if_pos h, g.down.1, g.down.2]
  rfl
theorem ansC_ok {n : Int} {l : List Er} {N : Nat} {L : List Ed} (g : Graph n l N L) (h : chkR n l = 0) : ansC n l = compL (firstL N L) := by
  unfold ansC
  rw [if_pos h, g.down.1, g.down.2]
theorem ansA_ok {n : Int} {l : List Er} {N : Nat} {L : List Ed} (g : Graph n l N L) (h : chkR n l = 0) : ansA n l = (List.range N).map (distL N L) := by
  unfold ansA
  rw [if_pos h, g.down.1, g.down.2]
theorem ansP_no {n : Int} {l : List Er} {N a b : Nat} {L : List Ed} (g : Graph n l N L) (h : chkK n l [(a : Int), (b : Int)] = 0) (hc : (costL N L b).getD a (-1) < 0) : ansP n l a b = ([], 0, 7) := by
  unfold ansP
  rw [if_pos h, g.down.1, g.down.2]
  exact if_pos hc
theorem ansP_yes {n : Int} {l : List Er} {N a b c : Nat} {L : List Ed} (g : Graph n l N L) (h : chkK n l [(a : Int), (b : Int)] = 0) (hc : (costL N L b).getD a (-1) = (c : Int)) : ansP n l a b = (pathR L (costL N L b) a (c % 128 + 1), ((c / 128 : Nat) : Int), 0) := by
  unfold ansP
  rw [if_pos h, g.down.1, g.down.2]
  show (if (costL N L b).getD a (-1) < 0 then _ else _) = _
  rw [if_neg (by omega)]
  show (pathR L (costL N L b) a (((costL N L b).getD a (-1)).toNat % 128 + 1), (costL N L b).getD a (-1) / 128, (0 : Int)) = _
  rw [hc]
  rfl
theorem ansD_bad {n : Int} {l : List Er} {a : Int} (h : chkK n l [a] ≠ 0) : ansD n l a = [] := by unfold ansD; rw [if_neg h]
theorem ansC_bad {n : Int} {l : List Er} (h : chkR n l ≠ 0) : ansC n l = [] := by unfold ansC; rw [if_neg h]
theorem ansA_bad {n : Int} {l : List Er} (h : chkR n l ≠ 0) : ansA n l = [] := by unfold ansA; rw [if_neg h]
theorem ansP_bad {n : Int} {l : List Er} {a b : Int} (h : chkK n l [a, b] ≠ 0) : ansP n l a b = ([], 0, chkK n l [a, b]) := by unfold ansP; rw [if_neg h]
end Go.Proofs.Ytibakhobgfiklaa
namespace Go.Proofs.Ytibakhobgfiklaa
open Go.RowKit

abbrev OwnEd := @OwnG Ed de 90 3
theorem turn_take {L : List Ed} {k : Nat} {e : Ed} (h : L[k]? = some e) : turnL (L.take (k + 1)) = turnL (L.take k) ++ [(e.2.1, e.1, e.2.2)] := by
  unfold turnL
  rw [take_at L k e h, List.map_append]
  rfl
/-- No entry is above. -/
def Bd (d : List Int) (M : Int) : Prop := ∀ i, d.getD i (-1) ≤ M
theorem bd_relax {d : List Int} {M : Int} {e : Ed} (h : Bd d M) (_ : 0 ≤ M) (he : e.2.2 ≤ 1073741824) : Bd (relax d e) (M + 137438953473) := by
  intro i
  have h1 := h i
  have h2 := h e.2.1
  unfold relax
  split
  · omega
  · split
    · rw [getD_set]
      split
      · omega
      · omega
    · omega
theorem low_relax {d : List Int} {e : Ed} (h : ∀ i, -1 ≤ d.getD i (-1)) : ∀ i, -1 ≤ (relax d e).getD i (-1) := by
  intro i
  have h1 := h i
  have h2 := h e.2.1
  unfold relax
  split
  · exact h1
  · split
    · rw [getD_set]
      split
      · omega
      · exact h1
    · exact h1
theorem relax_none {d : List Int} {e : Ed} (h : d.getD e.2.1 (-1) < 0) : relax d e = d := by unfold relax; rw [if_pos h]
theorem relax_set {d : List Int} {e : Ed} (h : ¬ d.getD e.2.1 (-1) < 0) (h2 : d.getD e.1 (-1) < 0 ∨ d.getD e.2.1 (-1) + (e.2.2 : Int) * 128 + 1 < d.getD e.1 (-1)) : relax d e = d.set e.1 (d.getD e.2.1 (-1) + (e.2.2 : Int) * 128 + 1) := by unfold relax; rw [if_neg h, if_pos h2]
theorem relax_keep {d : List Int} {e : Ed} (h : ¬ d.getD e.2.1 (-1) < 0) (h2 : ¬ (d.getD e.1 (-1) < 0 ∨ d.getD e.2.1 (-1) + (e.2.2 : Int) * 128 + 1 < d.getD e.1 (-1))) : relax d e = d := by unfold relax; rw [if_neg h, if_neg h2]
theorem getD_of {d : List Int} {i : Nat} {x : Int} (h : d[i]? = some x) : d.getD i (-1) = x := by rw [List.getD_eq_getElem?_getD, h]; rfl
/-- What the rounds have made so far. -/
structure Cst (N b : Nat) (L : List Ed) (k j : Nat) (d : List Int) : Prop where
  len : d.length = N
  low : ∀ i, -1 ≤ d.getD i (-1)
  top : Bd d ((k : Int) * 562949953425408 + (j : Int) * 137438953473)
  fin : relaxN L (N - k - 1) (relaxL (L.drop j) d) = costL N L b
theorem Cst.step {N b : Nat} {L : List Ed} {k j : Nat} {d : List Int} (h : Cst N b L k j d) (hw : ∀ e ∈ L, e.2.2 ≤ 1073741824) {e : Ed} (he : L[j]? = some e) : Cst N b L k (j + 1) (relax d e) := by
  refine ⟨by rw [relax_length]; exact h.len, low_relax h.low, fun i => ?_, ?_⟩
  · have := bd_relax h.top (by omega) (hw e (List.mem_iff_getElem?.2 ⟨j, he⟩)) i
    omega
  · have := h.fin
    rw [drop_at L j e he] at this
    exact this
theorem Cst.round {N b : Nat} {L : List Ed} {k : Nat} {d : List Int} (hL : L.length ≤ 4096) (h : Cst N b L k L.length d) (hk : k + 1 < N) : Cst N b L (k + 1) 0 d := by
  refine ⟨h.len, h.low, fun i => ?_, ?_⟩
  · have := h.top i
    omega
  · have := h.fin
    rw [List.drop_length] at this
    rw [show N - k - 1 = (N - (k + 1) - 1) + 1 by omega] at this
    exact this
theorem Cst.last {N b : Nat} {L : List Ed} {k : Nat} {d : List Int} (h : Cst N b L k L.length d) (hk : k + 1 = N) : d = costL N L b := by
  have := h.fin
  rw [List.drop_length, show N - k - 1 = 0 by omega] at this
  exact this
theorem cst_start {N b : Nat} (L : List Ed) (hb : b < N) : Cst N b L 0 0 (start N b) := by
  have hg : ∀ i, (start N b).getD i (-1) = 0 ∨ (start N b).getD i (-1) = -1 := by
    intro i
    unfold start
    rw [getD_set]
    split
    · exact .inl rfl
    · right
      rw [List.getD_eq_getElem?_getD, List.getElem?_replicate]
      split <;> rfl
  refine ⟨by unfold start; rw [List.length_set, List.length_replicate], fun i => ?_, fun i => ?_, ?_⟩
  · rcases hg i with h | h <;> omega
  · rcases hg i with h | h <;> omega
  · unfold costL
    rw [show N = (N - 0 - 1) + 1 by omega]
    rfl
end Go.Proofs.Ytibakhobgfiklaa
namespace Go.Proofs.Ytibakhobgfiklaa
open Go.RowKit Go.Maps

/-- A value as it stands. -/
def asIs (v : Value) : Option (DataW Value × List MemPlace) := some (.held v, [])
theorem int_key : Keyed Try.prog 3 := int_keyed Try.underlying3
theorem key_int (a : Int) (h1 : -9223372036854775808 ≤ a) (h2 : a ≤ 9223372036854775807) : keyOf Try.prog 3 (.int .i64 a) = some (.int .i64 a) := keyOf_int_mk Try.underlying3 (WalkArith.wf_i64 ⟨h1, h2⟩)
theorem zero_row (w : World) : (zeroValue 65).run Try.prog w = .ok (.slice none 0 0) w := by kernel_rfl
/-- Block b is a map of at most n entries: V tells what stands at each key (the nil slice where nothing does). -/
def MapV (w : World) (b n : Nat) (V : Int → Value) : Prop := ∃ D : DataW Value, w.ownsMap Try.prog 3 asIs b n D ∧ IsMap D ∧ ∀ a, D.atKey (.int .i64 a) (.held (.slice none 0 0)) = .held (V a)
theorem MapV.made (w : World) : MapV (w.alloc (.map #[] 0)) w.heap.size 0 fun _ => .slice none 0 0 := ⟨.map [], World.ownsMap_made _ _ _ _, isMap_empty, fun _ => atKey_of_not_has (has_eq [] _) _⟩
theorem MapV.lt {w : World} {b n : Nat} {V : Int → Value} (h : MapV w b n V) : b < w.heap.size := by
  obtain ⟨D, h1, _⟩ := h
  exact h1.lt
theorem MapV.kept {w w' : World} {b n : Nat} {V : Int → Value} {row : Option Nat} (h : MapV w b n V) (hg : w.grownBy w' row) (hne : some b ≠ row) : MapV w' b n V := by
  obtain ⟨D, h1, h2⟩ := h
  exact ⟨D, h1.kept hg hne, h2⟩
theorem below_none {w w' : World} (hb : Below w.heap.size w w') : w.grownBy w' none := ⟨hb.os, hb.tape, hb.output, hb.size, fun k hk _ => hb.block k hk⟩
theorem MapV.below {w w' : World} {b n : Nat} {V : Int → Value} (h : MapV w b n V) (hb : Below w.heap.size w w') : MapV w' b n V := h.kept (below_none hb) (by simp)
theorem MapV.look {w : World} {b n : Nat} {V : Int → Value} (h : MapV w b n V) (a : Int) (h1 : -9223372036854775808 ≤ a) (h2 : a ≤ 9223372036854775807) : (Instr.lookup 83 (.map (some b)) (.int .i64 a) false).run Try.prog w = .ok (V a) w := by
  obtain ⟨D, g1, _, g3⟩ := h
  obtain ⟨v, ps, hrun, hv⟩ := g1.lookup int_key Try.underlying83 (zero_row w) (show asIs (.slice none 0 0) = some (.held (.slice none 0 0), []) from rfl) (key_int a h1 h2)
  rw [g3] at hv
  have : v = V a := by
    unfold asIs at hv
    have := congrArg (fun z => z.map Prod.fst) hv
    simp at this
    exact this
  rw [hrun, this]
/-- What stands behind a store. -/
def putV (V : Int → Value) (a : Int) (v : Value) : Int → Value := fun x => if x = a then v else V x
theorem MapV.put {w w' : World} {b n : Nat} {V : Int → Value} (D : DataW Value) (h2 : IsMap D) (h3 : ∀ a, D.atKey (.int .i64 a) (.held (.slice none 0 0)) = .held (V a)) (a : Int) (v : Value) (h : w'.ownsMap Try.prog 3 asIs b n (D.put (.int .i64 a) (.held v))) : MapV w' b n (putV V a v) ∧ w = w := by
  refine ⟨⟨_, h, h2.put _ _, fun x => ?_⟩, rfl⟩
  unfold putV
  by_cases hx : x = a
  · subst hx
    rw [if_pos rfl, atKey_put_same h2 (by simp [WideAt.IsKeyLit])]
  · rw [if_neg hx, atKey_put_other (by simpa using hx), h3]
/-- A store. -/
theorem MapV.update {w : World} {b n : Nat} {V : Int → Value} (hown : MapV w b n V) (hn : n < 1099511627776) (k : Int) (k1 : -9223372036854775808 ≤ k) (k2 : k ≤ 9223372036854775807) (val : Value) :
    ∃ w', (Instr.mapUpdate 83 (.map (some b)) (.int .i64 k) val).run Try.prog w = .ok () w' ∧ MapV w' b (n + 1) (putV V k val) ∧ w.grownBy w' (some b) := by
  obtain ⟨D, g1, g2, g3⟩ := hown
  obtain ⟨w', hrun, r1, r2⟩ := g1.update int_key Try.underlying83 (by unfold maxLen; omega) (key_int k k1 k2) (show asIs val = some (.held val, []) from rfl)
  exact ⟨w', hrun, (MapV.put (w := w) D g2 g3 k val r1).1, r2⟩

/-! ### The rows behind the map -/
/-- The map at block b tells, for each node, the edges that leave it: rows of the call's own that lie apart. -/
def Nbr (w : World) (b n base : Nat) (V : Int → Value) (L : List Ed) : Prop := MapV w b n V ∧ b < base ∧ (∀ a : Nat, OwnEd w base (V a) (outs L a)) ∧ ∀ a a' : Nat, a ≠ a' → ∀ g, (V a).ownBlock = some g → (V a').ownBlock ≠ some g
theorem outs_snoc_same (L : List Ed) (e : Ed) : outs (L ++ [e]) e.1 = outs L e.1 ++ [e] := by
  unfold outs
  rw [List.filter_append]
  congr 1
  simp
theorem outs_snoc_other (L : List Ed) (e : Ed) (a : Nat) (h : a ≠ e.1) : outs (L ++ [e]) a = outs L a := by
  unfold outs
  rw [List.filter_append]
  have : [e].filter (fun e => e.1 == a) = [] := by simp [Ne.symm h]
  rw [this, List.append_nil]
theorem Nbr.below {w w' : World} {b n base : Nat} {V : Int → Value} {L : List Ed} (h : Nbr w b n base V L) (hb : Below w.heap.size w w') : Nbr w' b n base V L :=
  ⟨h.1.below hb, h.2.1, fun a => (h.2.2.1 a).below hb, h.2.2.2⟩
/-- Behind an append to one row and the store of it. -/
theorem Nbr.step {w w1 w2 : World} {b n base : Nat} {V : Int → Value} {L : List Ed} {e : Ed} {v : Value} (h : Nbr w b n base V L) (_ : base ≤ w.heap.size) (h1 : OwnEd w1 base v (outs L e.1 ++ [e])) (h2 : w.grownBy w1 (V e.1).ownBlock) (h3 : ∀ g, v.ownBlock = some g → (V e.1).ownBlock = some g ∨ w.heap.size ≤ g)
    (h4 : MapV w2 b (n + 1) (putV V e.1 v)) (h5 : w1.grownBy w2 (some b)) : Nbr w2 b (n + 1) base (putV V e.1 v) (L ++ [e]) := by
  obtain ⟨g1, g2, g3, g4⟩ := h
  have keep : ∀ {W W' : World} {u : Value} {l : List Ed} {row : Option Nat}, OwnEd W base u l → W.grownBy W' row → (∀ g, u.ownBlock = some g → some g ≠ row) → OwnEd W' base u l := by
    intro W W' u l row ho hg hne
    refine ⟨ho.1, ?_⟩
    rcases ho.2 with h0 | ⟨g, cap, cur, hv, hbg, hgk, hr⟩
    · exact .inl h0
    · have hlt : g < W.heap.size := by
        rcases Nat.lt_or_ge g W.heap.size with h | h
        · exact h
        · rw [Array.getElem?_eq_none h] at hgk; cases hgk
      exact .inr ⟨g, cap, cur, hv, hbg, (hg.block g hlt (hne g (by rw [hv]; rfl))).trans hgk, hr⟩
  have off : ∀ {W : World} {u : Value} {l : List Ed}, OwnEd W base u l → ∀ g, u.ownBlock = some g → base ≤ g ∧ g < W.heap.size := fun ho g hg => World.ownsRow.lt ho g hg
  refine ⟨h4, g2, fun a => ?_, fun a a' hne g hg hg' => ?_⟩
  · unfold putV
    by_cases ha : a = e.1
    · subst ha
      rw [if_pos rfl, outs_snoc_same]
      exact keep h1 h5 fun g hg hb' => by have := (off h1 g hg).1; have := Option.some.inj hb'; omega
    · rw [if_neg (by omega), outs_snoc_other _ _ _ ha]
      exact keep (keep (g3 a) h2 fun g hg hb' => g4 _ _ ha g hg hb'.symm) h5 fun g hg hb' => by
        have := (off (g3 a) g hg).1; have := Option.some.inj hb'; omega
  · unfold putV at hg hg'
    by_cases ha : a = e.1
    · subst ha
      rw [if_pos rfl] at hg
      rw [if_neg (by omega)] at hg'
      rcases h3 g hg with x | x
      · exact g4 _ _ (Ne.symm hne) g hg' x
      · have := (off (g3 a') g hg').2; omega
    · rw [if_neg (by omega)] at hg
      by_cases ha' : a' = e.1
      · subst ha'
        rw [if_pos rfl] at hg'
        rcases h3 g hg' with x | x
        · exact g4 _ _ hne g hg x
        · have := (off (g3 a) g hg).2; omega
      · rw [if_neg (by omega)] at hg'
        exact g4 _ _ hne g hg hg'
/-- What is left for a reader: the map, and rows that read as the edges of each node. -/
def NbrL (w : World) (b : Nat) (V : Int → Value) (L : List Ed) : Prop := (∃ n, MapV w b n V) ∧ ∀ a : Nat, LstD w (V a) (outs L a)
theorem Nbr.read {w : World} {b n base : Nat} {V : Int → Value} {L : List Ed} (h : Nbr w b n base V L) : NbrL w b V L := ⟨⟨n, h.1⟩, fun a => OwnG.lst (h.2.2.1 a)⟩
theorem NbrL.below {w w' : World} {b : Nat} {V : Int → Value} {L : List Ed} (h : NbrL w b V L) (hb : Below w.heap.size w w') : NbrL w' b V L := by
  obtain ⟨⟨n, h1⟩, h2⟩ := h
  exact ⟨⟨n, h1.below hb⟩, fun a => (h2 a).below hb⟩
theorem NbrL.look {w : World} {b : Nat} {V : Int → Value} {L : List Ed} (h : NbrL w b V L) (a : Nat) (ha : a ≤ 4096) : (Instr.lookup 83 (.map (some b)) (.int .i64 (a : Int)) false).run Try.prog w = .ok (V a) w := by
  obtain ⟨⟨n, h1⟩, _⟩ := h
  exact h1.look _ (by omega) (by omega)
end Go.Proofs.Ytibakhobgfiklaa
namespace Go.Proofs.Ytibakhobgfiklaa
open Go.RowKit Go.Maps

/-- Appending one element, as a step of a region that draws its order: where the row lies then. -/
theorem stepG_where {α : Type} {enc : α → List Value} {k : Nat} {T : TypeId} (hk : ∀ a, (enc a).length = k) (hone : ∀ a, ∀ u ∈ enc a, u.oneCell' = true) (k0 : 0 < k) {ST : TypeId} {z : Value} {bytes : Nat} (hu : Try.prog.underlying ST = some (.slice T)) (hinfo : (Try.prog.info? T).map (fun i => (i.zero, i.size, i.bytes)) = some (some z, k, bytes)) (hz0 : z.cells.size = k) (hb64 : bytes ≤ 64)
    (w : World) {ops : Array Oper} {o : Oper} {a : Act} {K : Act → World → Prop} {Q : Exit → Act → World → Prop} {E : Prop} (hgd : o.guard = none) (s x : Operand)
    (ho : o.op = .call { callee := .builtin .append, args := #[s, x], argTypes := #[ST, ST] }) (base : Nat) (v : Value) (l : List α) (m : α) (hs : a.eval s = v) (hown : OwnG enc T k w base v l)
    (b : Nat) (cells : Array Value) (hbk : w.heap[b]? = some (.cells cells T (0, 0))) (hc : cells.toList = enc m) (hx : a.eval x = .slice (some ⟨b, 0, none⟩) 1 1) (hb : base ≤ w.heap.size)
    (hl : l.length + 1 ≤ 1099511627776) (h : ∀ v' w', OwnG enc T k w' base v' (l ++ [m]) → w.grownBy w' v.ownBlock → (∀ g, v'.ownBlock = some g → v.ownBlock = some g ∨ g = w.heap.size) → K (a.put o.dst v') w') : if Region.wanted o (yielded ops a.tmps) = true then Oper.wp Try.prog o a w K Q else E := by
  obtain ⟨i, hi, hz, hsz, hby⟩ := info_parts hinfo
  have hw : Region.wanted o (yielded ops a.tmps) = true := by simp [Region.wanted, hgd]
  rw [if_pos hw]
  obtain ⟨v', w', hr, h2, h3, h4⟩ := run_append_where (P := Try.prog) w base ST o.type T i z k bytes hu hi hz hsz hby hz0 k0 v l.length (fl enc l) hown ⟨b, 0, none⟩ 1 1 (enc m) (by rw [hk, Nat.one_mul]) (by
    intro j u hu
    have hadd : (⟨b, 0, none⟩ : Addr).add j = ⟨b, j, none⟩ := by unfold Addr.add; split <;> simp_all
    rw [hadd, cell_of_row w b j cells _ _ hbk, ← hu, ← hc]
    simp) (hone m) (by unfold maxLen; omega) (Nat.le_trans (Nat.mul_le_mul_left _ hb64) (by omega)) hb
  unfold Oper.wp execOp
  simp only [ho, resolve, invoke, builtin, Sem.run_bind, Sem.run_pure, Result.andThen_ok, List.map_toArray, List.map_cons, List.map_nil, hs, hx, hr]
  refine h v' w' ?_ h3 h4
  unfold OwnG
  rw [List.length_append, fl_app, fl_one]
  exact h2
theorem outs_take {L : List Ed} {k : Nat} {e : Ed} (h : L[k]? = some e) : L.take (k + 1) = L.take k ++ [e] := take_at L k e h
theorem outs_len (L : List Ed) (a : Nat) : (outs L a).length ≤ L.length := by unfold outs; exact List.length_filter_le _ _
set_option maxRecDepth 100000 in
set_option maxHeartbeats 4000000 in
theorem neighbors_any (v : Value) (L : List Ed) (N : Nat) (hN : N ≤ 64) (hi : Inn L N) (hl : L.length ≤ 4096) (w : World) (h : LstD w v L) :
    Calls Try.prog 62 #[v] w fun e w' => ∃ b V, e = .returned (.map (some b)) ∧ NbrL w' b V L ∧ Below w.heap.size w w' := by
  have H := Lib.hid h
  obtain ⟨A, c, rfl, -, -, -⟩ := h
  have hmm := @run_makeMap Try.prog
  go_enter Try.func62, Try.ntmps62
  go_wp2_with fail
  clear hmm
  go_loopw [9] (fun i wr => ∃ (k : Nat) (V : Int → Value), i = .int .i64 k ∧ k ≤ L.length ∧ Hid (Nbr wr w.heap.size k (w.heap.size + 1) V (L.take k)) ∧ Hid (Below w.heap.size w wr)) (fun i _ => L.length - (intOf i).toNat)
  case atStart =>
    refine ⟨0, fun _ => .slice none 0 0, rfl, Nat.zero_le _, ⟨MapV.made w, by omega, fun a => OwnG.nil _ _ _ _ _, fun a a' _ g hg => by cases hg⟩, Lib.hid ((Below.refl _ _).alloc (Nat.le_refl _) _)⟩
  case round =>
    obtain ⟨k, V, rfl, hk, HO, HB⟩ := hrel
    by_cases hlt : k < L.length
    · obtain ⟨e, he⟩ := at_lt hlt
      obtain ⟨b, o, rfl, hb, m0, m1, m2⟩ := three_at de_len H.out he rfl
      have hin := hi e (List.mem_iff_getElem?.2 ⟨k, he⟩)
      obtain ⟨x, y, z⟩ := e
      simp only at m0 m1 m2 hin
      have r0 := (HB.out.cell (p := ⟨b, o + k * 3, none⟩) hb).trans m0
      have r1 := (HB.out.cell (p := ⟨b, o + k * 3 + 1, none⟩) hb).trans m1
      have r2 := (HB.out.cell (p := ⟨b, o + k * 3 + 2, none⟩) hb).trans m2
      have gk : (k : Int) < (L.length : Int) := by omega
      have hz := HB.out.size
      have hbm := HO.out.1.lt
      have TT := Lib.hid (outs_take he)
      have hlen := Nat.le_trans (outs_len (L.take k) x) (by rw [List.length_take]; exact Nat.min_le_left _ _)
      obtain ⟨w1, hw1⟩ : ∃ w1, wr.alloc (.cells #[.int .i64 (x : Int), .int .i64 (y : Int), .int .i64 (z : Int)] 90 (0, 0)) = w1 := ⟨_, rfl⟩
      have hz1 : w.heap.size + 1 ≤ w1.heap.size := by rw [← hw1]; simp; omega
      have O1 : Hid (Nbr w1 w.heap.size k (w.heap.size + 1) V (L.take k)) := by rw [← hw1]; exact HO.out.below ((Below.refl _ _).alloc (Nat.le_refl _) _)
      have B1 : Hid (Below w.heap.size w w1) := by rw [← hw1]; exact HB.out.alloc hz _
      have c1 : w1.heap[wr.heap.size]? = some (.cells #[.int .i64 (x : Int), .int .i64 (y : Int), .int .i64 (z : Int)] 90 (0, 0)) := by rw [← hw1]; exact heap_alloc_new _ _
      have q0 : w1.cell? ⟨wr.heap.size, 0, none⟩ = some (.int .i64 (x : Int)) := by rw [cell_of_row _ _ 0 _ _ _ c1]; rfl
      have q1 : w1.cell? ⟨wr.heap.size, 1, none⟩ = some (.int .i64 (y : Int)) := by rw [cell_of_row _ _ 1 _ _ _ c1]; rfl
      have q2 : w1.cell? ⟨wr.heap.size, 2, none⟩ = some (.int .i64 (z : Int)) := by rw [cell_of_row _ _ 2 _ _ _ c1]; rfl
      have LK : ∀ W, Below w1.heap.size w1 W → (Instr.lookup 83 (.map (some w.heap.size)) (.int .i64 (x : Int)) false).run Try.prog W = .ok (V x) W := fun W hW => (O1.out.1.below hW).look _ (by omega) (by omega)
      have l1 := LK w1 (Below.refl _ _)
      have l2 := LK w1.drew (Below.refl _ _).drew
      have l3 := fun o => LK (w1.alloc o) ((Below.refl _ _).alloc (Nat.le_refl _) o)
      have l4 := fun o => LK (w1.alloc o).drew ((Below.refl _ _).alloc (Nat.le_refl _) o).drew
      have ga : ∀ (j : Nat) (v : Value), w1.cell? ⟨wr.heap.size, j, none⟩ = some v → ∀ o, (w1.alloc o).cell? ⟨wr.heap.size, j, none⟩ = some v := fun j v hv o => ((Below.cell (p := ⟨wr.heap.size, j, none⟩) ((Below.refl w1.heap.size w1).alloc (Nat.le_refl _) o)) (by rw [← hw1]; simp)).trans hv
      have hvx : ∀ g, (V (x : Int)).ownBlock = some g → g < wr.heap.size := fun g hg => (World.ownsRow.lt (HO.out.2.2.1 x) g hg).2
      have hsz : wr.heap.size < w1.heap.size := by rw [← hw1]; simp
      have c2 : ∀ o, (w1.alloc o).drew.heap[wr.heap.size]? = some (.cells #[.int .i64 (x : Int), .int .i64 (y : Int), .int .i64 (z : Int)] 90 (0, 0)) := fun o => (Go.heap_alloc_old w1 o hsz).trans c1
      have HC2 := Lib.hid c2
      have HVX := Lib.hid hvx
      clear hvx c2
      have q3 := ga 0 _ q0
      have q4 := ga 1 _ q1
      have q5 := ga 2 _ q2
      clear he m0 m1 m2 LK c1 H HB HO hbm ga
      go_wp2_with fail
      go_region_law (first
        | (refine stepG_where de_len de_one (by decide) Try.underlying65 info_ed rfl (by decide) _ rfl _ _ rfl (w.heap.size + 1) _ (outs (L.take k) x) (x, y, z) rfl ((O1.out.below (((Below.refl _ _).alloc (Nat.le_refl _) _).drew)).2.2.1 x) w1.heap.size _ (heap_alloc_new _ _) rfl rfl (by simp; omega) (by omega) ?_
           intro v1 w2 own1 gr1 wh1
           have O2 := Lib.hid own1
           have G2 := Lib.hid gr1
           have WH := Lib.hid wh1
           clear own1 gr1 wh1
           obtain ⟨w3, hrun, mv, g3⟩ := MapV.update ((O1.out.below (((Below.refl _ _).alloc (Nat.le_refl _) _).drew)).1.kept G2.out (fun e => by have := World.ownsRow.lt (O1.out.2.2.1 x) _ e.symm; omega)) (by omega) (x : Int) (by omega) (by omega) v1
           have c3 := (G2.out.block wr.heap.size (by simp; omega) (fun e => by have := HVX.out _ e.symm; omega)).trans (HC2.out _)
           have q6 : w2.cell? ⟨wr.heap.size, 0, none⟩ = some (.int .i64 (x : Int)) := by rw [cell_of_row _ _ 0 _ _ _ c3]; rfl
           clear c3
           have MV := Lib.hid mv
           have G3 := Lib.hid g3
           clear mv g3))
      all_goals
        have NB : Hid (Nbr w3 w.heap.size (k + 1) (w.heap.size + 1) (putV V x v1) (L.take (k + 1))) := by
          show Nbr _ _ _ _ _ _
          rw [TT.out]
          exact (O1.out.below (((Below.refl _ _).alloc (Nat.le_refl _) _).drew)).step (e := (x, y, z)) (by simp; omega) O2.out G2.out (fun g hg => (WH.out g hg).imp id (fun h => by rw [h]; exact Nat.le_refl _)) MV.out G3.out
        have B3 : Hid (Below w.heap.size w w3) := by
          have s1 := G2.out.size
          simp at s1
          exact ((B1.out.alloc (by omega) _).drew.grown G2.out (by simp; omega) fun g hg => by have := World.ownsRow.lt (O1.out.2.2.1 x) _ hg; omega).grown G3.out (by omega) fun g hg => by cases hg; exact Nat.le_refl _
        clear O1 O2 G2 WH MV G3 B1 hrun
        go_wp2_with fail
        go_roundw
        case rel => exact ⟨k + 1, _, by go_num, by omega, NB, B3⟩
        case measure => simp [intOf]; omega
    · have E : Hid (NbrL wr w.heap.size V L) := by
        have := HO.out
        rw [List.take_of_length_le (by omega)] at this
        exact this.read
      have d : decide (k < L.length) = false := by rw [decide_eq_false_iff_not]; exact hlt
      clear hlt HO
      go_wp2_with fail
      go_ret
      exact ⟨_, _, rfl, E.out, HB.out⟩
end Go.Proofs.Ytibakhobgfiklaa
namespace Go.Proofs.Ytibakhobgfiklaa
open Go.RowKit

/-- The function that the queue was made with. -/
abbrev fnC : Value := .func (.func 82) #[] #[]
/-- The types that leastCosts writes. -/
def LT (T : TypeId) : Prop := HT T ∨ T = 101
theorem Fr.imp {P P' : TypeId → Prop} {B B' : Nat} {w w' : World} (h : Fr P B w w') (hB : B' ≤ B) (hP : ∀ T, P T → P' T) : Fr P' B' w w' :=
  ⟨h.os, h.tape, h.output, h.size, fun k hk hc => h.block k hk (hc.imp (fun x => Nat.lt_of_lt_of_le x hB) fun x T hT => x T (hP T hT))⟩
/-- The state of leastCosts: the costs in block G, their slice boxed in G + 1, the queue's pointer boxed in P, the queue at B. -/
structure Rs (w : World) (base G B P n : Nat) (lab : List Ct) (l : List (Pr × Nat)) (N : Nat) : Prop where
  len : lab.length = n
  own : OwnC w base (.slice (some ⟨G, 0, none⟩) n n) lab
  box : w.heap[G + 1]? = some (.cells #[.slice (some ⟨G, 0, none⟩) n n] 98 (0, 0))
  que : w.heap[P]? = some (.cells #[.pointer (some ⟨B, 0, none⟩)] 107 (0, 0))
  st : St w B fnC l N
theorem lt_of_heap {w : World} {k : Nat} {x : Obj} (h : w.heap[k]? = some x) : k < w.heap.size := by
  rcases Nat.lt_or_ge k w.heap.size with h' | h'
  · exact h'
  · rw [Array.getElem?_eq_none h'] at h; cases h
theorem Rs.below {w w' : World} {base G B P n : Nat} {lab : List Ct} {l : List (Pr × Nat)} {N : Nat} (h : Rs w base G B P n lab l N) (hb : Below w.heap.size w w') : Rs w' base G B P n lab l N :=
  ⟨h.len, h.own.below hb, (hb.block _ (lt_of_heap h.box)).trans h.box, (hb.block _ (lt_of_heap h.que)).trans h.que, h.st.below hb⟩
theorem not_lt_box : ¬ LT 98 := by rintro ((h | h) | h) <;> cases h
theorem not_lt_que : ¬ LT 107 := by rintro ((h | h) | h) <;> cases h
theorem not_ht_cost : ¬ HT 101 := by rintro (h | h) <;> cases h
/-- What a push leaves. -/
theorem Rs.push {w w' : World} {base G B P n : Nat} {lab : List Ct} {l l' : List (Pr × Nat)} {N N' : Nat} (h : Rs w base G B P n lab l N) (hs : St w' B fnC l' N') (hf : Fr HT B w w') : Rs w' base G B P n lab l' N' :=
  ⟨h.len, h.own.fr hf not_ht_cost, hf.other h.box (fun x => not_lt_box (.inl x)), hf.other h.que (fun x => not_lt_que (.inl x)), hs⟩
theorem Tag.setCell {w : World} {g : Nat} {T : TypeId} (ht : Tag w g T) (p : Addr) (u : Value) : Tag (w.setCell p u) g T := by
  obtain ⟨cs, f, h⟩ := ht
  unfold Tag World.setCell
  rw [Array.getElem?_modify, h]
  split
  · exact ⟨_, _, rfl⟩
  · exact ⟨_, _, rfl⟩
/-- What a store of one cost leaves. -/
theorem Rs.put {w : World} {base G B P n : Nat} {lab : List Ct} {l : List (Pr × Nat)} {N : Nat} (h : Rs w base G B P n lab l N) (hG : base ≤ G) {t : Nat} (ht : t < n) (c : Ct) :
    Rs ((w.setCell ⟨G, t * 2, none⟩ (.int .i64 c.1)).setCell ⟨G, t * 2 + 1, none⟩ (.int .i64 c.2)) base G B P n (lab.set t c) l N ∧ Fr LT base w ((w.setCell ⟨G, t * 2, none⟩ (.int .i64 c.1)).setCell ⟨G, t * 2 + 1, none⟩ (.int .i64 c.2)) := by
  obtain ⟨h1, h2, h3, h4, h5⟩ := h
  have tg : Tag w G 101 := h2.tag
  have e1 : G + 1 ≠ G := by omega
  have e2 : P ≠ G := by
    rintro rfl
    have := Tag.uniq tg ⟨_, _, h4⟩
    cases this
  have tg2 : Tag (w.setCell ⟨G, t * 2, none⟩ (.int .i64 c.1)) G 101 := tg.setCell _ _
  refine ⟨⟨by rw [List.length_set]; exact h1, ?_, ?_, ?_, ?_⟩, ?_⟩
  · rw [← h1] at h2 ht
    have := OwnC.put h2 ht c
    rw [h1] at this
    exact this
  · rw [RowKit.Below.heap_setCell _ _ _ _ e1, RowKit.Below.heap_setCell _ _ _ _ e1]; exact h3
  · rw [RowKit.Below.heap_setCell _ _ _ _ e2, RowKit.Below.heap_setCell _ _ _ _ e2]; exact h4
  · exact (h5.store (p := ⟨G, t * 2, none⟩) tg not_ht_cost _).store (p := ⟨G, t * 2 + 1, none⟩) tg2 not_ht_cost _
  · exact ((Fr.refl LT base w).setCell (p := ⟨G, t * 2, none⟩) hG (.inr rfl) (fun _ => tg) _).setCell (p := ⟨G, t * 2 + 1, none⟩) hG (.inr rfl) (fun _ => tg) _
/-- The cells of a state that a walk reads. -/
theorem Rs.cells {w : World} {base G B P n : Nat} {lab : List Ct} {l : List (Pr × Nat)} {N : Nat} (h : Rs w base G B P n lab l N) {t : Nat} (ht : t < n) :
    w.cell? ⟨G + 1, 0, none⟩ = some (.slice (some ⟨G, 0, none⟩) n n) ∧ w.cell? ⟨P, 0, none⟩ = some (.pointer (some ⟨B, 0, none⟩)) ∧ w.cell? ⟨G, t * 2, none⟩ = some (.int .i64 (gl lab t).1) ∧ w.cell? ⟨G, t * 2 + 1, none⟩ = some (.int .i64 (gl lab t).2) ∧ w.frozen? ⟨G, t * 2, none⟩ = false ∧ w.frozen? ⟨G, t * 2 + 1, none⟩ = false := by
  have hb := h.box
  have hq := h.que
  have ho := h.own
  rw [← h.len] at ho ht
  obtain ⟨a1, a2, a3, a4⟩ := OwnC.at ho (at_gl ht)
  refine ⟨?_, ?_, a1, a2, a3, a4⟩
  · rw [cell_of_row _ _ 0 _ _ _ hb]; rfl
  · rw [cell_of_row _ _ 0 _ _ _ hq]; rfl
set_option maxRecDepth 100000 in
set_option maxHeartbeats 4000000 in
theorem reach_no (base G B P n : Nat) (lab : List Ct) (l : List (Pr × Nat)) (N t : Nat) (ht : t < n) (c : Ct) (hc : ltC c (gl lab t) = false) (w : World) (h : Rs w base G B P n lab l N) :
    Calls Try.prog 84 #[.int .i64 (t : Int), .agg #[.int .i64 c.1, .int .i64 c.2], .pointer (some ⟨G + 1, 0, none⟩), .pointer (some ⟨P, 0, none⟩)] w fun e w' => e = .returned (.tuple #[]) ∧ Below w.heap.size w w' := by
  obtain ⟨w0, hw0⟩ : ∃ x, w.alloc (.cells #[.int .i64 c.1, .int .i64 c.2] 101 (0, 0)) = x := ⟨_, rfl⟩
  have b0 : Below w.heap.size w w0 := by rw [← hw0]; exact (Below.refl _ _).alloc (Nat.le_refl _) _
  have c0 : w0.heap[w.heap.size]? = some (.cells #[.int .i64 c.1, .int .i64 c.2] 101 (0, 0)) := by rw [← hw0]; exact heap_alloc_new _ _
  obtain ⟨m0, m1, m2, m3, m4, m5⟩ := (h.below b0).cells ht
  have q0 : w0.cell? ⟨w.heap.size, 0, none⟩ = some (.int .i64 c.1) := by rw [cell_of_row _ _ 0 _ _ _ c0]; rfl
  have q1 : w0.cell? ⟨w.heap.size, 1, none⟩ = some (.int .i64 c.2) := by rw [cell_of_row _ _ 1 _ _ _ c0]; rfl
  have C := Lib.hid (cless_any c (gl lab t))
  rw [hc] at C
  have B0 := Lib.hid b0
  have gt : (t : Int) < (n : Int) := by omega
  clear b0 c0 h hc m1 m4 m5
  go_enter Try.func84, Try.ntmps84
  go_wp2_with fail
  go_still_tail 5, (by kernel_rfl)
  change wpList _ _ _ _ _ w0.drew
  go_wp2_with fail
  refine (rel (W := w0) (C.out _) (Below.refl _ _).drew).mono ?_
  rintro e w3 ⟨rfl, b3⟩
  have B3 : Hid (Below w.heap.size w w3) := B0.out.trans (b3.mono B0.out.size)
  clear b3 m0 m2 m3 q0 q1
  go_wp2_with fail
  go_end0
  exact ⟨rfl, B3.out⟩
set_option maxRecDepth 100000 in
set_option maxHeartbeats 4000000 in
theorem reach_yes (base G B P n : Nat) (hG : base ≤ G) (hB : base ≤ B) (lab : List Ct) (l : List (Pr × Nat)) (N t : Nat) (ht : t < n) (c : Ct) (hc : ltC c (gl lab t) = true) (hl : l.length ≤ 1000000) (hN : N ≤ 1000000) (w : World) (hwb : base ≤ w.heap.size) (h : Rs w base G B P n lab l N) :
    Calls Try.prog 84 #[.int .i64 (t : Int), .agg #[.int .i64 c.1, .int .i64 c.2], .pointer (some ⟨G + 1, 0, none⟩), .pointer (some ⟨P, 0, none⟩)] w fun e w' => e = .returned (.tuple #[]) ∧ Rs w' base G B P n (lab.set t c) (pushH lCost l N ((t : Int), c)) (N + 1) ∧ Fr LT base w w' := by
  obtain ⟨w0, hw0⟩ : ∃ x, w.alloc (.cells #[.int .i64 c.1, .int .i64 c.2] 101 (0, 0)) = x := ⟨_, rfl⟩
  have b0 : Below w.heap.size w w0 := by rw [← hw0]; exact (Below.refl _ _).alloc (Nat.le_refl _) _
  have c0 : w0.heap[w.heap.size]? = some (.cells #[.int .i64 c.1, .int .i64 c.2] 101 (0, 0)) := by rw [← hw0]; exact heap_alloc_new _ _
  have h0 := h.below b0
  obtain ⟨m0, m1, m2, m3, m4, m5⟩ := h0.cells ht
  have q0 : w0.cell? ⟨w.heap.size, 0, none⟩ = some (.int .i64 c.1) := by rw [cell_of_row _ _ 0 _ _ _ c0]; rfl
  have q1 : w0.cell? ⟨w.heap.size, 1, none⟩ = some (.int .i64 c.2) := by rw [cell_of_row _ _ 1 _ _ _ c0]; rfl
  have C := Lib.hid (cless_any c (gl lab t))
  rw [hc] at C
  have B0 := Lib.hid b0
  have H0 := Lib.hid h0
  have C0 := Lib.hid c0
  have gt : (t : Int) < (n : Int) := by omega
  have HT1 := Lib.hid ht
  have hwG := h.own.tag.lt
  have HW := Lib.hid (show w.heap.size ≠ G by omega)
  have HW0 := Lib.hid (lt_of_heap c0)
  have HWB := Lib.hid hwb
  clear b0 c0 h hc m1 m4 m5 h0 ht hwG hwb
  go_enter Try.func84, Try.ntmps84
  go_wp2_with fail
  go_still_tail 5, (by kernel_rfl)
  change wpList _ _ _ _ _ w0.drew
  go_wp2_with fail
  refine (rel (W := w0) (C.out _) (Below.refl _ _).drew).mono ?_
  rintro e w3 ⟨rfl, b3⟩
  have R3 := Lib.hid (H0.out.below b3)
  have hz3 := b3.size
  have C3 : Hid (w3.heap[w.heap.size]? = some (.cells #[.int .i64 c.1, .int .i64 c.2] 101 (0, 0))) := (b3.block _ HW0.out).trans C0.out
  have F3 : Hid (Fr LT base w w3) := (Below.fr B0.out).trans (Below.fr b3)
  obtain ⟨m0, m1, m2, m3, m4, m5⟩ := R3.out.cells HT1.out
  have q0 : w3.cell? ⟨w.heap.size, 0, none⟩ = some (.int .i64 c.1) := by rw [cell_of_row _ _ 0 _ _ _ C3.out]; rfl
  have q1 : w3.cell? ⟨w.heap.size, 1, none⟩ = some (.int .i64 c.2) := by rw [cell_of_row _ _ 1 _ _ _ C3.out]; rfl
  have P4 := Lib.hid (R3.out.put hG HT1.out c)
  obtain ⟨w4, hw4⟩ : ∃ x, (w3.setCell ⟨G, t * 2, none⟩ (.int .i64 c.1)).setCell ⟨G, t * 2 + 1, none⟩ (.int .i64 c.2) = x := ⟨_, rfl⟩
  have C4 : Hid (w4.heap[w.heap.size]? = some (.cells #[.int .i64 c.1, .int .i64 c.2] 101 (0, 0))) := by
    show _ = _
    rw [← hw4, RowKit.Below.heap_setCell _ _ _ _ HW.out, RowKit.Below.heap_setCell _ _ _ _ HW.out]
    exact C3.out
  have R4 : Hid (Rs w4 base G B P n (lab.set t c) l N ∧ Fr LT base w3 w4) := by rw [← hw4]; exact P4.out
  obtain ⟨n0, n1, -⟩ := R4.out.1.cells HT1.out
  have p0 : w4.cell? ⟨w.heap.size, 0, none⟩ = some (.int .i64 c.1) := by rw [cell_of_row _ _ 0 _ _ _ C4.out]; rfl
  have p1 : w4.cell? ⟨w.heap.size, 1, none⟩ = some (.int .i64 c.2) := by rw [cell_of_row _ _ 1 _ _ _ C4.out]; rfl
  clear b3 hz3 C3 P4 C4 R3 H0 B0 C0
  go_wp2_with fail
  refine (push_any fun_cost B N l ((t : Int), c) trivial hl hN _ R4.out.1.st).mono ?_
  rintro e w5 ⟨rfl, s5, f5⟩
  have K : Hid (Rs w5 base G B P n (lab.set t c) (pushH lCost l N ((t : Int), c)) (N + 1) ∧ Fr LT base w w5) := ⟨R4.out.1.push s5 f5, (F3.out.trans R4.out.2).trans (f5.imp hB fun T hT => .inl hT)⟩
  clear s5 f5
  go_wp2_with fail
  go_end0
  exact ⟨rfl, K.out⟩
end Go.Proofs.Ytibakhobgfiklaa
namespace Go.Proofs.Ytibakhobgfiklaa
open Go.RowKit

/-! ### The costs at the start -/
def farRow (n k : Nat) : List Ct := List.replicate k farC ++ List.replicate (n - k) (0, 0)
theorem farRow_len {n k : Nat} (h : k ≤ n) : (farRow n k).length = n := by unfold farRow; rw [List.length_append, List.length_replicate, List.length_replicate]; omega
theorem farRow_zero (n : Nat) : farRow n 0 = List.replicate n (0, 0) := by unfold farRow; simp
theorem farRow_all (n : Nat) : farRow n n = List.replicate n farC := by unfold farRow; simp
theorem farRow_at {n k : Nat} (h : k < n) : (farRow n k)[k]? = some (0, 0) := by
  unfold farRow
  rw [List.getElem?_append_right (by rw [List.length_replicate]; exact Nat.le_refl _), List.length_replicate, Nat.sub_self, List.getElem?_replicate, if_pos (by omega)]
theorem farRow_set {n k : Nat} (h : k < n) : (farRow n k).set k farC = farRow n (k + 1) := by
  unfold farRow
  rw [List.set_append_right _ _ (by rw [List.length_replicate]; exact Nat.le_refl _), List.length_replicate, Nat.sub_self, show n - k = (n - (k + 1)) + 1 by omega, List.replicate_succ, List.set_cons_zero, List.replicate_succ', List.append_assoc]
  rfl
theorem set_same {β : Type} (l : List β) (i : Nat) (a : β) (h : l[i]? = some a) : l.set i a = l := by
  apply List.ext_getElem?
  intro j
  rw [List.getElem?_set]
  split
  · next e =>
    subst e
    rw [if_pos (List.getElem?_eq_some_iff.1 h).1, h]
  · rfl
/-- The first cell of a cost stored. -/
theorem OwnC.put1 {w : World} {base g c : Nat} {l : List Ct} (h : OwnC w base (.slice (some ⟨g, 0, none⟩) l.length c) l) {i : Nat} {b : Ct} (hb : l[i]? = some b) (x : Int) : OwnC (w.setCell ⟨g, i * 2, none⟩ (.int .i64 x)) base (.slice (some ⟨g, 0, none⟩) (l.set i (x, b.2)).length c) (l.set i (x, b.2)) := by
  have hi := (List.getElem?_eq_some_iff.1 hb).1
  have h1 := (World.ownsRow.stored h (i * 2) (.int .i64 x)).1
  have e : (fl cc l).set (i * 2) (.int .i64 x) = fl cc (l.set i (x, b.2)) := by
    rw [← fl_set (enc := cc) (fun a => ⟨_, _, rfl⟩) l i (x, b.2) _ _ rfl hi]
    symm
    apply set_same
    rw [List.getElem?_set_ne (by omega)]
    exact fl_at cc_len hb 1 (by omega)
  rw [e] at h1
  show World.ownsRow _ base _ 2 _ (l.set i (x, b.2)).length _
  rw [List.length_set]
  exact h1
theorem OwnC.put1n {w : World} {base g c n : Nat} {l : List Ct} (hl : l.length = n) (h : OwnC w base (.slice (some ⟨g, 0, none⟩) n c) l) {i : Nat} {b : Ct} (hb : l[i]? = some b) (x : Int) : OwnC (w.setCell ⟨g, i * 2, none⟩ (.int .i64 x)) base (.slice (some ⟨g, 0, none⟩) n c) (l.set i (x, b.2)) := by
  subst hl
  have := OwnC.put1 h hb x
  rw [List.length_set] at this
  exact this
theorem OwnC.atn {w : World} {base g c n : Nat} {l : List Ct} (hl : l.length = n) (h : OwnC w base (.slice (some ⟨g, 0, none⟩) n c) l) {i : Nat} {a : Ct} (ha : l[i]? = some a) :
    w.cell? ⟨g, i * 2, none⟩ = some (.int .i64 a.1) ∧ w.cell? ⟨g, i * 2 + 1, none⟩ = some (.int .i64 a.2) ∧ w.frozen? ⟨g, i * 2, none⟩ = false ∧ w.frozen? ⟨g, i * 2 + 1, none⟩ = false := by
  subst hl
  exact OwnC.at h ha
theorem gl_far (n i : Nat) : gl (List.replicate n farC) i = farC := by
  unfold gl
  rw [List.getD_eq_getElem?_getD, List.getElem?_replicate]
  split <;> rfl
theorem first_less : ltC (0, 0) farC = true := by decide

/-! ### The queue -/
theorem first_queue (x : Pr) : (pushH lCost [] 0 x).map (·.1) = [x] := by
  have h := (push_perm lCost [] 0 x).map (·.1)
  exact List.perm_singleton.1 h
theorem first_heap (x : Pr) : Hp lCost (pushH lCost [] 0 x) := push_heap cost_ord Hp.nil 0 x
/-- What waits behind a pop. -/
structure Top (D : List Ed) (n b : Nat) (lab : List Ct) (l : List (Pr × Nat)) (N : Nat) (x : Pr) : Prop where
  hp : Hp lCost l
  dj : ∃ Q X K, Dj D n b lab Q X [] N K ∧ Q.Perm (x :: l.map (·.1)) ∧ ∀ y ∈ l.map (·.1), ltC y.2 x.2 = false
theorem pop_top {D : List Ed} {n b : Nat} {lab : List Ct} {l : List (Pr × Nat)} {X : List Nat} {N : Nat} {K : Int} (h : Dj D n b lab (l.map (·.1)) X [] N K) (hp : Hp lCost l) {a : Pr × Nat} (ha : l[0]? = some a) : Top D n b lab (popH lCost l) N a.1 := by
  have hperm := pop_perm lCost l a ha
  refine ⟨pop_heap cost_ord hp, _, X, K, h, (by have := hperm.map (·.1); exact this), fun y hy => ?_⟩
  obtain ⟨z, hz, rfl⟩ := List.mem_map.1 hy
  exact (nb_iff.1 (root_least cost_ord hp ha z (hperm.symm.subset (List.mem_cons_of_mem _ hz)))).1
theorem Dj.low {D : List Ed} {n b : Nat} {lab : List Ct} {Q : List (Int × Ct)} {X : List Nat} {T : List Ed} {N : Nat} {K : Int} (h : Dj D n b lab Q X T N K) (hD : D.length ≤ 4096) : N + T.length ≤ 4097 ∧ Q.length ≤ N := by
  have := h.cnt
  have := h.qn
  omega
theorem Dj.pushed {D : List Ed} {n b : Nat} {lab : List Ct} {l : List (Pr × Nat)} {X : List Nat} {T : List Ed} {N : Nat} {K : Int} {e : Ed} (h : Dj D n b lab (l.map (·.1)) X (e :: T) N K) (hn : n ≤ 64) (hX : e.1 ∈ X) (he : e ∈ D) (hl : Inn D n) (hK : key (gl lab e.1) = K) (hk : (gl lab e.1).2 + 1 ≤ (X.length : Int)) (hlt : ltC (plusC (gl lab e.1) e.2.2) (gl lab e.2.1) = true) :
    Dj D n b (lab.set e.2.1 (plusC (gl lab e.1) e.2.2)) ((pushH lCost l N ((e.2.1 : Int), plusC (gl lab e.1) e.2.2)).map (·.1)) X T (N + 1) K ∧ gl (lab.set e.2.1 (plusC (gl lab e.1) e.2.2)) e.1 = gl lab e.1 := by
  refine h.less hn hX he hl hK hk hlt ?_
  have := (push_perm lCost l N ((e.2.1 : Int), plusC (gl lab e.1) e.2.2)).map (·.1)
  rw [List.map_append] at this
  exact this

/-! ### Memory -/
/-- How much is left to do. -/
def lenV : Value → Nat | .slice _ n _ => n | _ => 0
def lenW (w : World) (B : Nat) : Nat := lenV ((w.cell? ⟨B, 1, none⟩).getD undef) + (4098 - (intOf ((w.cell? ⟨B, 2, none⟩).getD undef)).toNat)
theorem Rs.lenW {w : World} {base G B P n : Nat} {lab : List Ct} {l : List (Pr × Nat)} {N : Nat} (h : Rs w base G B P n lab l N) : lenW w B = l.length + (4098 - N) := by
  obtain ⟨v, m0, m1, m2, -, -, -, h2⟩ := h.st.cells
  obtain ⟨A, c, rfl, _⟩ := ownK_shape h2
  unfold Go.Proofs.Ytibakhobgfiklaa.lenW
  rw [m1, m2]
  simp [lenV, intOf]
/-- A node's box. -/
def Vis (w : World) (p : Nat) (x : Pr) : Prop := w.heap[p]? = some (.cells #[.int .i64 x.1, .int .i64 x.2.1, .int .i64 x.2.2] 110 (0, 0))
theorem not_lt_vis : ¬ LT 110 := by rintro ((h | h) | h) <;> cases h
theorem Rs.store {w : World} {base G B P n : Nat} {lab : List Ct} {l : List (Pr × Nat)} {N : Nat} (h : Rs w base G B P n lab l N) {p : Nat} (ht : Tag w p 110) (o : Nat) (u : Value) : Rs (w.setCell ⟨p, o, none⟩ u) base G B P n lab l N := by
  have e0 : ∀ g, (Value.slice (some ⟨G, 0, none⟩) n n).ownBlock = some g → g ≠ p := by
    intro g hg e
    cases hg
    subst e
    have := Tag.uniq h.own.tag ht
    cases this
  have e1 : G + 1 ≠ p := by
    rintro rfl
    have := Tag.uniq ⟨_, _, h.box⟩ ht
    cases this
  have e2 : P ≠ p := by
    rintro rfl
    have := Tag.uniq ⟨_, _, h.que⟩ ht
    cases this
  refine ⟨h.len, ?_, (RowKit.Below.heap_setCell _ _ _ _ e1).trans h.box, (RowKit.Below.heap_setCell _ _ _ _ e2).trans h.que, h.st.store (p := ⟨p, o, none⟩) ht (fun x => not_lt_vis (.inl x)) u⟩
  refine ⟨h.own.1, ?_⟩
  rcases h.own.2 with h0 | ⟨g, cap, cur, hv, hbg, hg, hr⟩
  · exact Or.inl h0
  · exact Or.inr ⟨g, cap, cur, hv, hbg, (RowKit.Below.heap_setCell _ _ _ _ (e0 g (by rw [hv]; rfl))).trans hg, hr⟩
/-- The next node laid into its box. -/
theorem Rs.next {w2 w3 : World} {base G B P n : Nat} {lab : List Ct} {l l' : List (Pr × Nat)} {N : Nat} (h : Rs w2 base G B P n lab l N) (x y : Pr) (hs : St w3 B fnC l' N) (hf : Fr HT B (w2.alloc (.cells #[.int .i64 x.1, .int .i64 x.2.1, .int .i64 x.2.2] 110 (0, 0))) w3) :
    Rs (((w3.setCell ⟨w2.heap.size, 0, none⟩ (.int .i64 y.1)).setCell ⟨w2.heap.size, 1, none⟩ (.int .i64 y.2.1)).setCell ⟨w2.heap.size, 2, none⟩ (.int .i64 y.2.2)) base G B P n lab l' N ∧
    Vis (((w3.setCell ⟨w2.heap.size, 0, none⟩ (.int .i64 y.1)).setCell ⟨w2.heap.size, 1, none⟩ (.int .i64 y.2.1)).setCell ⟨w2.heap.size, 2, none⟩ (.int .i64 y.2.2)) w2.heap.size y ∧ Vis w3 w2.heap.size x := by
  have r3 := hf.other (heap_alloc_new w2 _) (fun x => not_lt_vis (.inl x))
  have h3 := (h.below ((Below.refl _ _).alloc (Nat.le_refl _) (.cells #[.int .i64 x.1, .int .i64 x.2.1, .int .i64 x.2.2] 110 (0, 0)))).push hs hf
  have a1 := heap_setCell_same w3 w2.heap.size 0 _ _ (.int .i64 y.1) r3
  have a2 := heap_setCell_same _ w2.heap.size 1 _ _ (.int .i64 y.2.1) a1
  have a3 := heap_setCell_same _ w2.heap.size 2 _ _ (.int .i64 y.2.2) a2
  refine ⟨((h3.store ⟨_, _, r3⟩ _ _).store ⟨_, _, a1⟩ _ _).store ⟨_, _, a2⟩ _ _, ?_, r3⟩
  unfold Vis
  rw [a3]
  simp
theorem Vis.cells {w : World} {p : Nat} {x : Pr} (h : Vis w p x) : w.cell? ⟨p, 0, none⟩ = some (.int .i64 x.1) ∧ w.cell? ⟨p, 1, none⟩ = some (.int .i64 x.2.1) ∧ w.cell? ⟨p, 2, none⟩ = some (.int .i64 x.2.2) ∧ w.frozen? ⟨p, 0, none⟩ = false ∧ w.frozen? ⟨p, 1, none⟩ = false ∧ w.frozen? ⟨p, 2, none⟩ = false := by
  unfold Vis at h
  refine ⟨?_, ?_, ?_, frozen_of_row w p 0 _ _ h, frozen_of_row w p 1 _ _ h, frozen_of_row w p 2 _ _ h⟩
  · rw [cell_of_row w p 0 _ _ _ h]; rfl
  · rw [cell_of_row w p 1 _ _ _ h]; rfl
  · rw [cell_of_row w p 2 _ _ _ h]; rfl
theorem Vis.below {w w' : World} {p : Nat} {x : Pr} (h : Vis w p x) (hb : Below w.heap.size w w') : Vis w' p x := (hb.block _ (lt_of_heap h)).trans h
/-- Costs that differ, costs that are alike. -/
theorem neq_cost (a b : Ct) (q : Bool) (h : (!decide (a = b)) = q) (W : World) : (binOp BinOp.neq 101 (.agg #[.int .i64 a.1, .int .i64 a.2]) (.agg #[.int .i64 b.1, .int .i64 b.2])).run Try.prog W = .ok (.bool q) W := by
  subst h
  obtain ⟨a1, a2⟩ := a
  obtain ⟨b1, b2⟩ := b
  by_cases h1 : a1 = b1
  · by_cases h2 : a2 = b2
    · subst h1 h2; go_simp
    · subst h1
      have : (a2 == b2) = false := beq_false h2
      go_simp
  · have : (a1 == b1) = false := beq_false h1
    go_simp
end Go.Proofs.Ytibakhobgfiklaa
namespace Go.Proofs.Ytibakhobgfiklaa
open Go.RowKit

theorem outs_from {D : List Ed} {v j : Nat} {e : Ed} (h : (outs D v)[j]? = some e) : e ∈ D ∧ e.1 = v := mem_outs.1 (List.mem_iff_getElem?.2 ⟨j, h⟩)
/-- The loop's state: the box, whether there is a node. -/
def LcR (D : List Ed) (n b base G B P : Nat) (w : World) (p q : Value) (wr : World) : Prop :=
  ∃ lab l N pb x, p = .pointer (some ⟨pb, 0, none⟩) ∧ Rs wr base G B P n lab l N ∧ Vis wr pb x ∧ Below w.heap.size w wr ∧ ((q = .bool true ∧ Top D n b lab l N x) ∨ (q = .bool false ∧ ∃ X K, Dj D n b lab [] X [] N K))
theorem not_lt_edge : ¬ LT 90 := by rintro ((h | h) | h) <;> cases h
/-- One more to do. -/
def tick : Value → Nat | .bool true => 1 | _ => 0
set_option maxRecDepth 100000 in
set_option maxHeartbeats 8000000 in
theorem least_any (n b mb : Nat) (V : Int → Value) (D : List Ed) (hn : n ≤ 64) (hb : b < n) (hD : D.length ≤ 4096) (hi : Inn D n) (hw : ∀ e ∈ D, e.2.2 ≤ 1073741824) (w : World) (hm : NbrL w mb V D) :
    Calls Try.prog 76 #[.int .i64 (n : Int), .map (some mb), .int .i64 (b : Int)] w fun e w' => ∃ u lab, e = .returned u ∧ OwnC w' w.heap.size u lab ∧ Lc D n b lab ∧ Below w.heap.size w w' := by
  have HM := Lib.hid hm
  have HI := Lib.hid hi
  have HW := Lib.hid hw
  clear hm hi hw
  have MK := fun W => mkG_run (enc := cc) (k := 2) cc_len (by decide) Try.underlying98 info_ct ((0, 0) : Ct) rfl n (by omega) (by omega) (n : Int) rfl W
  obtain ⟨w1, hw1⟩ : ∃ x, w.alloc (.cells (fl cc (List.replicate n ((0, 0) : Ct))).toArray 101 (0, 0)) = x := ⟨_, rfl⟩
  have O1 : Hid (OwnC w1 w.heap.size (.slice (some ⟨w.heap.size, 0, none⟩) n n) (farRow n 0)) := by
    have := ownG_made (enc := cc) (T := 101) cc_len w (Nat.le_refl _) (List.replicate n ((0, 0) : Ct)) (by rw [List.length_replicate]; unfold maxLen; omega)
    rw [List.length_replicate, hw1] at this
    rw [farRow_zero]
    exact this
  have B1 : Hid (Below w.heap.size w w1) := by rw [← hw1]; exact (Below.refl _ _).alloc (Nat.le_refl _) _
  have z1 : w1.heap.size = w.heap.size + 1 := by rw [← hw1]; simp
  have Z1 := Lib.hid z1
  clear z1
  go_enter Try.func76, Try.ntmps76
  go_wp2_with fail
  clear MK hw1
  go_loopw [19] (fun i wr => ∃ k : Nat, i = .int .i64 k ∧ k ≤ n ∧ Hid (OwnC wr w.heap.size (.slice (some ⟨w.heap.size, 0, none⟩) n n) (farRow n k)) ∧ Hid (wr.heap[w1.heap.size]? = some (.cells #[.slice (some ⟨w.heap.size, 0, none⟩) n n] 98 (0, 0))) ∧ Hid (Below w.heap.size w wr)) (fun i _ => n - (intOf i).toNat)
  case atStart => exact ⟨0, rfl, Nat.zero_le _, Lib.hid (O1.out.below ((Below.refl _ _).alloc (Nat.le_refl _) _)), Lib.hid (heap_alloc_new _ _), Lib.hid (B1.out.alloc B1.out.size _)⟩
  case round =>
    obtain ⟨k, rfl, hk, HO, HX, HB⟩ := hrel
    have x0 : wr.cell? ⟨w1.heap.size, 0, none⟩ = some (.slice (some ⟨w.heap.size, 0, none⟩) n n) := by rw [cell_of_row _ _ 0 _ _ _ HX.out]; rfl
    by_cases hlt : k < n
    · have gk : (k : Int) < (n : Int) := by omega
      obtain ⟨a1, -, a3, -⟩ := OwnC.atn (farRow_len hk) HO.out (farRow_at hlt)
      have O2 : Hid (OwnC (wr.setCell ⟨w.heap.size, k * 2, none⟩ (.int .i64 68719476736)) w.heap.size (.slice (some ⟨w.heap.size, 0, none⟩) n n) (farRow n (k + 1))) := by
        show OwnC _ _ _ _
        rw [← farRow_set hlt]
        exact OwnC.put1n (farRow_len hk) HO.out (farRow_at hlt) 68719476736
      have X2 : Hid ((wr.setCell ⟨w.heap.size, k * 2, none⟩ (.int .i64 68719476736)).heap[w1.heap.size]? = some (.cells #[.slice (some ⟨w.heap.size, 0, none⟩) n n] 98 (0, 0))) := (RowKit.Below.heap_setCell _ _ _ _ (by have := Z1.out; show w1.heap.size ≠ w.heap.size; omega)).trans HX.out
      have B2 : Hid (Below w.heap.size w (wr.setCell ⟨w.heap.size, k * 2, none⟩ (.int .i64 68719476736))) := HB.out.setCell (Nat.le_refl _) _
      clear HO HX HB O1 B1
      go_wp2_with fail
      go_roundw
      case rel => exact ⟨k + 1, by go_num, by omega, O2, X2, B2⟩
      case measure => simp [intOf]; omega
    · have d : decide (k < n) = false := by rw [decide_eq_false_iff_not]; exact hlt
      have hkn : k = n := by omega
      have O3 : Hid (OwnC wr w.heap.size (.slice (some ⟨w.heap.size, 0, none⟩) n n) (List.replicate n farC)) := by
        have := HO.out
        rw [hkn, farRow_all] at this
        exact this
      have HX1 : Hid (wr.heap[w.heap.size + 1]? = some (.cells #[.slice (some ⟨w.heap.size, 0, none⟩) n n] 98 (0, 0))) := by
        have := HX.out
        rw [Z1.out] at this
        exact this
      have zz := Z1.out
      clear hlt HO O1 B1 HX Z1
      rw [zz] at x0 ⊢
      clear zz
      go_wp2_with fail
      refine (new_any fun_cost wr).mono ?_
      rintro e w3 ⟨rfl, s3, b3⟩
      have R3 : Hid (Rs (w3.alloc (.cells #[.pointer (some ⟨wr.heap.size, 0, none⟩)] 107 (0, 0))) w.heap.size w.heap.size wr.heap.size w3.heap.size n (List.replicate n farC) [] 0) :=
        ⟨List.length_replicate, (O3.out.below b3).below ((Below.refl _ _).alloc (Nat.le_refl _) _), (Go.heap_alloc_old w3 _ (Nat.lt_of_lt_of_le (lt_of_heap HX1.out) b3.size)).trans ((b3.block _ (lt_of_heap HX1.out)).trans HX1.out), heap_alloc_new _ _, s3.below ((Below.refl _ _).alloc (Nat.le_refl _) _)⟩
      have B4 : Hid (Below w.heap.size w (w3.alloc (.cells #[.pointer (some ⟨wr.heap.size, 0, none⟩)] 107 (0, 0)))) := (HB.out.trans (b3.mono HB.out.size)).alloc (Nat.le_trans HB.out.size b3.size) _
      have HQB : Hid (w.heap.size ≤ wr.heap.size) := HB.out.size
      clear s3 b3 O3 HX1 HB x0
      go_wp2_with fail
      refine (reach_yes w.heap.size w.heap.size wr.heap.size w3.heap.size n (Nat.le_refl _) HQB.out (List.replicate n farC) [] 0 b hb ((0 : Int), (0 : Int)) (by rw [gl_far]; exact first_less) (by simp) (by omega) _ B4.out.size R3.out).mono ?_
      rintro e w5 ⟨rfl, r5, f5⟩
      have R5 := Lib.hid r5
      have B5 : Hid (Below w.heap.size w w5) := B4.out.trans (f5.below B4.out.size)
      generalize hPB : w3.heap.size = PB at *
      generalize hQB : wr.heap.size = QB at *
      clear hPB hQB R3 B4 r5 f5
      obtain ⟨g0, g1, -⟩ := R5.out.cells hb
      have PLN : (pushH lCost [] 0 ((b : Int), (0 : Int), (0 : Int))).length = 1 := by rw [push_len]; rfl
      go_wp2_with fail
      refine (pop_all fun_cost QB 1 _ (by rw [PLN]; omega) w5 R5.out.st).mono ?_
      rintro e w6 (⟨a, ha, rfl, s6, f6⟩ | ⟨hnil, rfl, s6, f6⟩)
      rotate_left
      · rw [hnil] at PLN; simp at PLN
      have S6 : Hid (Rs w6 w.heap.size w.heap.size QB PB n ((List.replicate n farC).set b (0, 0)) (popH lCost (pushH lCost [] 0 ((b : Int), (0 : Int), (0 : Int)))) 1) := R5.out.push s6 f6
      have B6 : Hid (Below w.heap.size w w6) := B5.out.trans ((f6.below (by have := R5.out.st.lt; omega)).mono HQB.out)
      have T6 : Hid (Top D n b ((List.replicate n farC).set b (0, 0)) (popH lCost (pushH lCost [] 0 ((b : Int), (0 : Int), (0 : Int)))) 1 a.1) := by
        have dj := Dj.start D hb
        rw [← first_queue] at dj
        exact pop_top dj (first_heap _) ha
      clear s6 f6 ha PLN R5 B5 g0 g1
      go_wp2_with fail
      go_loopw [11, 12] (fun p q wx => Hid (LcR D n b w.heap.size w.heap.size QB PB w p q wx)) (fun _ q wx => tick q + lenW wx QB)
      case atStart => exact ⟨_, _, _, w6.heap.size, a.1, rfl, S6.out.below ((Below.refl _ _).alloc (Nat.le_refl _) _), heap_alloc_new _ _, B6.out.alloc B6.out.size _, .inl ⟨rfl, T6.out⟩⟩
      case round =>
        clear S6 B6 T6
        obtain ⟨lab, l, N, pb, x, rfl, rs, vis, bel, (⟨rfl, top⟩ | ⟨rfl, X, K, dj⟩)⟩ := hrel.out
        · have M0 := Lib.hid rs.lenW
          obtain ⟨hp, Q, X, K, dj, perm, mn⟩ := top
          have low := dj.low hD
          have plen := perm.length_eq
          simp at plen low
          obtain ⟨v, k, W, rfl, hv, hWb, hk, (⟨hne, dj2⟩ | ⟨heq, hvX, hkl, dj2⟩)⟩ := dj.pop hn perm mn
          · have RS := Lib.hid rs
            have VIS := Lib.hid vis
            have BEL := Lib.hid bel
            have DJ := Lib.hid dj2
            have HP := Lib.hid hp
            have LB : Hid (l.length ≤ 4097 ∧ N ≤ 4097) := by constructor <;> omega
            have MEAS : Hid (l.length + (4098 - N) ≤ l.length + (4098 - N)) := Nat.le_refl _
            obtain ⟨g0, g1, g2, g3, -⟩ := rs.cells hv
            obtain ⟨n0, n1, n2, -⟩ := vis.cells
            have NQ := neq_cost ((W : Int), (k : Int)) (gl lab v) true (by rw [decide_eq_false (fun e => hne e.symm)]; rfl)
            have gv : (v : Int) < (n : Int) := by omega
            have vb := lt_of_heap vis
            have bb := lt_of_heap rs.box
            clear hrel rs vis bel dj dj2 hp perm mn hne low plen
            go_wp2_with fail
            go_quiet (fail)
            have RS1 : Hid (Rs (wr.drewN nq) w.heap.size w.heap.size QB PB n lab l N) := RS.out.below (below_drewN (Below.refl _ _) nq)
            have VIS1 : Hid (Vis (wr.drewN nq) pb ((v : Int), (W : Int), (k : Int))) := VIS.out.below (below_drewN (Below.refl _ _) nq)
            have BEL1 : Hid (Below w.heap.size w (wr.drewN nq)) := below_drewN BEL.out nq
            clear RS VIS BEL g0 g1 g2 g3 n0 n1 n2 NQ vb bb
            generalize wr.drewN nq = wx at RS1 VIS1 BEL1 ⊢
            obtain ⟨n0, n1, n2, -⟩ := VIS1.out.cells
            have q9 := ((RS1.out.below ((Below.refl _ _).alloc (Nat.le_refl _) (.cells #[.int .i64 (v : Int), .int .i64 (W : Int), .int .i64 (k : Int)] 110 (0, 0)))).cells hb).2.1
            have ll := LB.out
            go_wp2_with fail
            refine (pop_all fun_cost QB N l (by omega) _ ((RS1.out.below ((Below.refl _ _).alloc (Nat.le_refl _) _)).st)).mono ?_
            rintro e w6 (⟨a, ha, rfl, s6, f6⟩ | ⟨hnil, rfl, s6, f6⟩)
            · have NX := Lib.hid (RS1.out.next ((v : Int), (W : Int), (k : Int)) a.1 s6 f6)
              have TP := Lib.hid (pop_top DJ.out HP.out ha)
              have PL := pop_len lCost l
              have hlt2 := (List.getElem?_eq_some_iff.1 ha).1
              obtain ⟨e0, e1, e2, e3, e4, e5⟩ := NX.out.2.2.cells
              have b6 : Below w.heap.size w (((w6.setCell ⟨wx.heap.size, 0, none⟩ (.int .i64 a.1.1)).setCell ⟨wx.heap.size, 1, none⟩ (.int .i64 a.1.2.1)).setCell ⟨wx.heap.size, 2, none⟩ (.int .i64 a.1.2.2)) :=
                (((BEL1.out.trans (((Below.refl _ _).alloc BEL1.out.size _).trans (f6.below (by have := RS1.out.st.lt; simp; omega) |>.mono HQB.out))).setCell BEL1.out.size _).setCell BEL1.out.size _).setCell BEL1.out.size _
              have B6 := Lib.hid b6
              have MM : Hid (lenW (((w6.setCell ⟨wx.heap.size, 0, none⟩ (.int .i64 a.1.1)).setCell ⟨wx.heap.size, 1, none⟩ (.int .i64 a.1.2.1)).setCell ⟨wx.heap.size, 2, none⟩ (.int .i64 a.1.2.2)) QB < (l.length + (4098 - N))) := by
                show _ < _
                rw [NX.out.1.lenW, PL]
                have := MEAS.out
                omega
              clear s6 f6 ha hlt2 PL b6 n0 n1 n2 ll q9
              go_wp2_with fail
              go_roundw
              case rel => exact ⟨_, _, _, _, _, rfl, NX.out.1, NX.out.2.1, B6.out, .inl ⟨rfl, TP.out⟩⟩
              case measure => rw [M0.out]; have := MM.out; simp only [tick]; omega
            · have NX := Lib.hid (RS1.out.next ((v : Int), (W : Int), (k : Int)) (0, 0, 0) s6 f6)
              have DJ2 : Hid (Dj D n b lab [] X [] N (128 * (W : Int) + (k : Int))) := by have := DJ.out; rw [hnil] at this; exact this
              obtain ⟨e0, e1, e2, e3, e4, e5⟩ := NX.out.2.2.cells
              have b6 : Below w.heap.size w (((w6.setCell ⟨wx.heap.size, 0, none⟩ (.int .i64 0)).setCell ⟨wx.heap.size, 1, none⟩ (.int .i64 0)).setCell ⟨wx.heap.size, 2, none⟩ (.int .i64 0)) :=
                (((BEL1.out.trans (((Below.refl _ _).alloc BEL1.out.size _).trans (f6.below (by have := RS1.out.st.lt; simp; omega) |>.mono HQB.out))).setCell BEL1.out.size _).setCell BEL1.out.size _).setCell BEL1.out.size _
              have B6 := Lib.hid b6
              have MM : Hid (lenW (((w6.setCell ⟨wx.heap.size, 0, none⟩ (.int .i64 0)).setCell ⟨wx.heap.size, 1, none⟩ (.int .i64 0)).setCell ⟨wx.heap.size, 2, none⟩ (.int .i64 0)) QB ≤ (l.length + (4098 - N))) := by
                show _ ≤ _
                have := NX.out.1.lenW
                simp only at this
                rw [this]
                have := MEAS.out
                simp only [List.length_nil, Nat.zero_add]
                omega
              clear s6 f6 hnil b6 n0 n1 n2 ll q9
              go_wp2_with fail
              go_roundw
              case rel => exact ⟨_, _, _, _, _, rfl, NX.out.1, NX.out.2.1, B6.out, .inr ⟨rfl, _, _, DJ2.out⟩⟩
              case measure => rw [M0.out]; have := MM.out; simp only [tick]; omega
          · have RS := Lib.hid rs
            have VIS := Lib.hid vis
            have BEL := Lib.hid bel
            have DJ := Lib.hid dj2
            have HP := Lib.hid hp
            obtain ⟨g0, g1, g2, g3, -⟩ := rs.cells hv
            obtain ⟨n0, n1, n2, -⟩ := vis.cells
            have NQ := neq_cost ((W : Int), (k : Int)) (gl lab v) false (by rw [decide_eq_true heq.symm]; rfl)
            have gv : (v : Int) < (n : Int) := by omega
            have HEQ := Lib.hid heq
            have HKL := Lib.hid hkl
            clear hrel rs vis bel dj dj2 hp perm mn heq hvX hkl plen low
            go_wp2_with fail
            go_quiet (fail)
            have RS1 : Hid (Rs (wr.drewN nq) w.heap.size w.heap.size QB PB n lab l N) := RS.out.below (below_drewN (Below.refl _ _) nq)
            have VIS1 : Hid (Vis (wr.drewN nq) pb ((v : Int), (W : Int), (k : Int))) := VIS.out.below (below_drewN (Below.refl _ _) nq)
            have BEL1 : Hid (Below w.heap.size w (wr.drewN nq)) := below_drewN BEL.out nq
            clear RS VIS BEL g0 g1 g2 g3 n0 n1 n2 NQ
            generalize wr.drewN nq = wx at RS1 VIS1 BEL1 ⊢
            have LKR := (HM.out.below BEL1.out).look v (by omega)
            obtain ⟨A, c, hV, -, -, -⟩ := HM.out.2 v
            rw [hV] at LKR
            have HL : Hid (∀ wy, Below w.heap.size w wy → LstD wy (.slice A (outs D v).length c) (outs D v)) := by
              intro wy hb
              have := (HM.out.2 v).below hb
              rw [hV] at this
              exact this
            clear hV
            obtain ⟨n0, n1, n2, -⟩ := VIS1.out.cells
            obtain ⟨g0, g1, -⟩ := RS1.out.cells hb
            have LOW := Lib.hid (DJ.out.low hD)
            have hol := Nat.le_trans (outs_len D v) hD
            go_wp2_with fail
            clear LKR n0 n1 n2 g0 g1
            go_loopw [57] (fun i wy => ∃ (j : Nat) (lab' : List Ct) (l' : List (Pr × Nat)) (N' : Nat), i = .int .i64 j ∧ j ≤ (outs D v).length ∧ Hid (Rs wy w.heap.size w.heap.size QB PB n lab' l' N') ∧ Hid (Vis wy pb ((v : Int), (W : Int), (k : Int))) ∧ Hid (Below w.heap.size w wy) ∧ Hid (Dj D n b lab' (l'.map (·.1)) (v :: X) ((outs D v).drop j) N' (128 * (W : Int) + (k : Int)) ∧ Hp lCost l' ∧ gl lab' v = ((W : Int), (k : Int))) ∧ Hid (l'.length + (4098 - N') ≤ l.length + (4098 - N))) (fun i _ => (outs D v).length - (intOf i).toNat)
            case atStart => exact ⟨0, lab, l, N, rfl, Nat.zero_le _, RS1, VIS1, BEL1, ⟨DJ.out, HP.out, HEQ.out⟩, Lib.hid (Nat.le_refl _)⟩
            case round =>
              clear RS1 VIS1 BEL1 DJ HP HEQ LOW
              obtain ⟨j, lab1, l1, N1, rfl, hj, RS, VIS, BEL, DJ3, MEAS⟩ := hrel
              by_cases hlt : j < (outs D v).length
              · obtain ⟨e, he⟩ := at_lt hlt
                obtain ⟨heD, hev⟩ := outs_from he
                obtain ⟨s, t, q⟩ := e
                simp only at hev
                subst hev
                obtain ⟨b0, o, rfl, hb0, r0, r1, r2⟩ := three_at de_len (HL.out wr BEL.out) he rfl
                simp only at r0 r1 r2
                have hin := HI.out _ heD
                have hwt := HW.out _ heD
                simp only at hin hwt
                have hd := DJ3.out.1
                rw [drop_at _ j _ he] at hd
                have low := hd.low hD
                simp at low
                have gj : (j : Int) < ((outs D s).length : Int) := by omega
                obtain ⟨w7, hw7⟩ : ∃ x, wr.alloc (.cells #[.int .i64 (s : Int), .int .i64 (t : Int), .int .i64 (q : Int)] 90 (0, 0)) = x := ⟨_, rfl⟩
                have b7 : Below wr.heap.size wr w7 := by rw [← hw7]; exact (Below.refl _ _).alloc (Nat.le_refl _) _
                have c7 : w7.heap[wr.heap.size]? = some (.cells #[.int .i64 (s : Int), .int .i64 (t : Int), .int .i64 (q : Int)] 90 (0, 0)) := by rw [← hw7]; exact heap_alloc_new _ _
                have RS7 := Lib.hid (RS.out.below b7)
                have VIS7 := Lib.hid (VIS.out.below b7)
                have BEL7 : Hid (Below w.heap.size w w7) := BEL.out.trans (b7.mono BEL.out.size)
                have p0 : w7.cell? ⟨wr.heap.size, 0, none⟩ = some (.int .i64 (s : Int)) := by rw [cell_of_row _ _ 0 _ _ _ c7]; rfl
                have p1 : w7.cell? ⟨wr.heap.size, 1, none⟩ = some (.int .i64 (t : Int)) := by rw [cell_of_row _ _ 1 _ _ _ c7]; rfl
                have p2 : w7.cell? ⟨wr.heap.size, 2, none⟩ = some (.int .i64 (q : Int)) := by rw [cell_of_row _ _ 2 _ _ _ c7]; rfl
                obtain ⟨n0, n1, n2, -⟩ := VIS7.out.cells
                have PL := Lib.hid (fun W' => plus_any ((W : Int), (k : Int)) (s : Int) (t : Int) q (by simp only; omega) (by simp only; omega) (by simp only; omega) (by simp only; omega) (by omega) W')
                have ST : Hid ((ltC (plusC ((W : Int), (k : Int)) q) (gl lab1 t) = true → Dj D n b (lab1.set t (plusC ((W : Int), (k : Int)) q)) ((pushH lCost l1 N1 ((t : Int), plusC ((W : Int), (k : Int)) q)).map (·.1)) (s :: X) ((outs D s).drop (j + 1)) (N1 + 1) (128 * (W : Int) + (k : Int)) ∧ Hp lCost (pushH lCost l1 N1 ((t : Int), plusC ((W : Int), (k : Int)) q)) ∧ gl (lab1.set t (plusC ((W : Int), (k : Int)) q)) s = ((W : Int), (k : Int)))
                    ∧ (ltC (plusC ((W : Int), (k : Int)) q) (gl lab1 t) = false → Dj D n b lab1 (l1.map (·.1)) (s :: X) ((outs D s).drop (j + 1)) N1 (128 * (W : Int) + (k : Int)) ∧ Hp lCost l1 ∧ gl lab1 s = ((W : Int), (k : Int)))) := by
                  obtain ⟨-, h2, h3⟩ := DJ3.out
                  refine ⟨fun h => ?_, fun h => ?_⟩
                  · have := Dj.pushed (l := l1) hd hn (by simp) heD HI.out (by show key (gl lab1 s) = _; rw [h3]; rfl) (by show (gl lab1 s).2 + 1 ≤ _; rw [h3]; have := HKL.out; simp at this ⊢; omega) (by show ltC (plusC (gl lab1 s) q) _ = true; rw [h3]; exact h)
                    simp only [h3] at this
                    exact ⟨this.1, push_heap cost_ord h2 _ _, this.2⟩
                  · exact ⟨hd.keep hn heD HI.out (by show ltC (plusC (gl lab1 s) q) _ = false; rw [h3]; exact h), h2, h3⟩
                have T0 : Hid (wr.heap.size < w7.heap.size ∧ pb < w7.heap.size) := ⟨lt_of_heap c7, lt_of_heap VIS7.out⟩
                have C7 := Lib.hid c7
                clear he heD hd DJ3 RS VIS BEL b7 c7 n0
                obtain ⟨cx, hcx⟩ : ∃ x, plusC ((W : Int), (k : Int)) q = x := ⟨_, rfl⟩
                rw [hcx] at ST PL
                clear hcx hwt
                have bref := Below.refl w7.heap.size w7
                have EC : Hid (∀ w9, w9.heap[wr.heap.size]? = some (.cells #[.int .i64 (s : Int), .int .i64 (t : Int), .int .i64 (q : Int)] 90 (0, 0)) → Vis w9 pb ((s : Int), (W : Int), (k : Int)) → w9.cell? ⟨wr.heap.size, 0, none⟩ = some (.int .i64 (s : Int)) ∧ w9.cell? ⟨wr.heap.size, 1, none⟩ = some (.int .i64 (t : Int)) ∧ w9.cell? ⟨wr.heap.size, 2, none⟩ = some (.int .i64 (q : Int)) ∧ w9.cell? ⟨pb, 1, none⟩ = some (.int .i64 (W : Int)) ∧ w9.cell? ⟨pb, 2, none⟩ = some (.int .i64 (k : Int))) := by
                  intro w9 h1 h2
                  obtain ⟨-, a1, a2, -⟩ := h2.cells
                  refine ⟨?_, ?_, ?_, a1, a2⟩
                  · rw [cell_of_row _ _ 0 _ _ _ h1]; rfl
                  · rw [cell_of_row _ _ 1 _ _ _ h1]; rfl
                  · rw [cell_of_row _ _ 2 _ _ _ h1]; rfl
                cases hless : ltC cx (gl lab1 t) with
                | true =>
                  have ST1 := Lib.hid (ST.out.1 hless)
                  have RC : Hid (∀ W', Below w7.heap.size w7 W' → Calls Try.prog 84 #[.int .i64 (t : Int), .agg #[.int .i64 cx.1, .int .i64 cx.2], .pointer (some ⟨w.heap.size + 1, 0, none⟩), .pointer (some ⟨PB, 0, none⟩)] W' fun e w9 => e = .returned (.tuple #[]) ∧ Rs w9 w.heap.size w.heap.size QB PB n (lab1.set t cx) (pushH lCost l1 N1 ((t : Int), cx)) (N1 + 1) ∧ Vis w9 pb ((s : Int), (W : Int), (k : Int)) ∧ Below w.heap.size w w9 ∧ w9.heap[wr.heap.size]? = some (.cells #[.int .i64 (s : Int), .int .i64 (t : Int), .int .i64 (q : Int)] 90 (0, 0))) := by
                    intro W' hb'
                    refine (reach_yes w.heap.size w.heap.size QB PB n (Nat.le_refl _) HQB.out lab1 l1 N1 t hin.2 cx hless (by omega) (by omega) W' (Nat.le_trans BEL7.out.size hb'.size) (RS7.out.below hb')).mono ?_
                    rintro e w9 ⟨rfl, r9, f9⟩
                    exact ⟨rfl, r9, f9.other (VIS7.out.below hb') not_lt_vis, (BEL7.out.trans (hb'.mono BEL7.out.size)).trans (f9.below (Nat.le_trans BEL7.out.size hb'.size)), f9.other ((hb'.block _ T0.out.1).trans C7.out) not_lt_edge⟩
                  have M9 : Hid ((pushH lCost l1 N1 ((t : Int), cx)).length + (4098 - (N1 + 1)) ≤ l.length + (4098 - N)) := by
                    show _ ≤ _
                    have := MEAS.out
                    rw [push_len]
                    omega
                  clear ST hless MEAS RS7 VIS7 BEL7 C7
                  go_wp2_with fail
                  clear r0 r1 r2
                  go_region_held3 (fun W' => W'.cell? ⟨wr.heap.size, 0, none⟩ = some (.int .i64 (s : Int)) ∧ W'.cell? ⟨wr.heap.size, 1, none⟩ = some (.int .i64 (t : Int)) ∧ W'.cell? ⟨wr.heap.size, 2, none⟩ = some (.int .i64 (q : Int)) ∧ W'.cell? ⟨pb, 1, none⟩ = some (.int .i64 (W : Int)) ∧ W'.cell? ⟨pb, 2, none⟩ = some (.int .i64 (k : Int))) (first | assumption | (exact ⟨by assumption, by assumption, by assumption, by assumption, by assumption⟩)) (first
                    | (go_at_call 87; with_reducible refine (rel (W := w7) (PL.out _) (by first | assumption | (apply Below.drew; assumption))).mono ?_; rintro e wb ⟨rfl, bb⟩; have cb0 := (bb.cell (p := ⟨wr.heap.size, 0, none⟩) T0.out.1).trans p0; have cb1 := (bb.cell (p := ⟨wr.heap.size, 1, none⟩) T0.out.1).trans p1; have cb2 := (bb.cell (p := ⟨wr.heap.size, 2, none⟩) T0.out.1).trans p2; have cb3 := (bb.cell (p := ⟨pb, 1, none⟩) T0.out.2).trans n1; have cb4 := (bb.cell (p := ⟨pb, 2, none⟩) T0.out.2).trans n2)
                    | (go_at_call 84; with_reducible refine (RC.out _ (by first | assumption | (apply Below.drew; assumption))).mono ?_; rintro e w9 ⟨rfl, r9, v9, b9, h9⟩; obtain ⟨d0, d1, d2, d3, d4⟩ := EC.out w9 h9 v9))
                  have R9 := Lib.hid r9
                  have V9 := Lib.hid v9
                  have B9 := Lib.hid b9
                  clear r9 v9 b9 h9 RC PL p0 p1 p2 n1 n2 bref bb EC T0 cb1 cb2 cb3 cb4 cb0 d0 d1 d2 d3 d4
                  go_wp2_with fail
                  go_roundw
                  case rel => exact ⟨j + 1, _, _, _, by go_num, by omega, R9, V9, B9, ST1, M9⟩
                  case measure => simp [intOf]; omega
                | false =>
                  have ST1 := Lib.hid (ST.out.2 hless)
                  have RC : Hid (∀ W', Below w7.heap.size w7 W' → Calls Try.prog 84 #[.int .i64 (t : Int), .agg #[.int .i64 cx.1, .int .i64 cx.2], .pointer (some ⟨w.heap.size + 1, 0, none⟩), .pointer (some ⟨PB, 0, none⟩)] W' fun e w9 => e = .returned (.tuple #[]) ∧ Rs w9 w.heap.size w.heap.size QB PB n lab1 l1 N1 ∧ Vis w9 pb ((s : Int), (W : Int), (k : Int)) ∧ Below w.heap.size w w9 ∧ w9.heap[wr.heap.size]? = some (.cells #[.int .i64 (s : Int), .int .i64 (t : Int), .int .i64 (q : Int)] 90 (0, 0))) := by
                    intro W' hb'
                    refine (reach_no w.heap.size w.heap.size QB PB n lab1 l1 N1 t hin.2 cx hless W' (RS7.out.below hb')).mono ?_
                    rintro e w9 ⟨rfl, b9⟩
                    exact ⟨rfl, (RS7.out.below hb').below b9, (VIS7.out.below hb').below b9, (BEL7.out.trans (hb'.mono BEL7.out.size)).trans (b9.mono (Nat.le_trans BEL7.out.size hb'.size)), (b9.block _ (Nat.lt_of_lt_of_le T0.out.1 hb'.size)).trans ((hb'.block _ T0.out.1).trans C7.out)⟩
                  clear ST hless RS7 VIS7 BEL7 C7
                  go_wp2_with fail
                  clear r0 r1 r2
                  go_region_held3 (fun W' => W'.cell? ⟨wr.heap.size, 0, none⟩ = some (.int .i64 (s : Int)) ∧ W'.cell? ⟨wr.heap.size, 1, none⟩ = some (.int .i64 (t : Int)) ∧ W'.cell? ⟨wr.heap.size, 2, none⟩ = some (.int .i64 (q : Int)) ∧ W'.cell? ⟨pb, 1, none⟩ = some (.int .i64 (W : Int)) ∧ W'.cell? ⟨pb, 2, none⟩ = some (.int .i64 (k : Int))) (first | assumption | (exact ⟨by assumption, by assumption, by assumption, by assumption, by assumption⟩)) (first
                    | (go_at_call 87; with_reducible refine (rel (W := w7) (PL.out _) (by first | assumption | (apply Below.drew; assumption))).mono ?_; rintro e wb ⟨rfl, bb⟩; have cb0 := (bb.cell (p := ⟨wr.heap.size, 0, none⟩) T0.out.1).trans p0; have cb1 := (bb.cell (p := ⟨wr.heap.size, 1, none⟩) T0.out.1).trans p1; have cb2 := (bb.cell (p := ⟨wr.heap.size, 2, none⟩) T0.out.1).trans p2; have cb3 := (bb.cell (p := ⟨pb, 1, none⟩) T0.out.2).trans n1; have cb4 := (bb.cell (p := ⟨pb, 2, none⟩) T0.out.2).trans n2)
                    | (go_at_call 84; with_reducible refine (RC.out _ (by first | assumption | (apply Below.drew; assumption))).mono ?_; rintro e w9 ⟨rfl, r9, v9, b9, h9⟩; obtain ⟨d0, d1, d2, d3, d4⟩ := EC.out w9 h9 v9))
                  have R9 := Lib.hid r9
                  have V9 := Lib.hid v9
                  have B9 := Lib.hid b9
                  clear r9 v9 b9 h9 RC PL p0 p1 p2 n1 n2 bref bb EC T0 cb1 cb2 cb3 cb4 cb0 d0 d1 d2 d3 d4
                  go_wp2_with fail
                  go_roundw
                  case rel => exact ⟨j + 1, _, _, _, by go_num, by omega, R9, V9, B9, ST1, MEAS⟩
                  case measure => simp [intOf]; omega
              · have d0 : decide (j < (outs D v).length) = false := by rw [decide_eq_false_iff_not]; exact hlt
                have DJ : Hid (Dj D n b lab1 (l1.map (·.1)) (v :: X) [] N1 (128 * (W : Int) + (k : Int))) := by
                  have := DJ3.out.1
                  rw [List.drop_of_length_le (by omega)] at this
                  exact this
                have HP := Lib.hid DJ3.out.2.1
                have LB : Hid (l1.length ≤ 4097 ∧ N1 ≤ 4097) := by
                  have := DJ.out.low hD
                  simp at this
                  constructor <;> omega
                clear hlt DJ3
                obtain ⟨n0, n1, n2, -⟩ := VIS.out.cells
                have q9 := ((RS.out.below ((Below.refl _ _).alloc (Nat.le_refl _) (.cells #[.int .i64 (v : Int), .int .i64 (W : Int), .int .i64 (k : Int)] 110 (0, 0)))).cells hb).2.1
                have ll := LB.out
                go_wp2_with fail
                refine (pop_all fun_cost QB N1 l1 (by omega) _ ((RS.out.below ((Below.refl _ _).alloc (Nat.le_refl _) _)).st)).mono ?_
                rintro e w6 (⟨a, ha, rfl, s6, f6⟩ | ⟨hnil, rfl, s6, f6⟩)
                · have NX := Lib.hid (RS.out.next ((v : Int), (W : Int), (k : Int)) a.1 s6 f6)
                  have TP := Lib.hid (pop_top DJ.out HP.out ha)
                  have PL := pop_len lCost l1
                  have hlt2 := (List.getElem?_eq_some_iff.1 ha).1
                  obtain ⟨e0, e1, e2, e3, e4, e5⟩ := NX.out.2.2.cells
                  have b6 : Below w.heap.size w (((w6.setCell ⟨wr.heap.size, 0, none⟩ (.int .i64 a.1.1)).setCell ⟨wr.heap.size, 1, none⟩ (.int .i64 a.1.2.1)).setCell ⟨wr.heap.size, 2, none⟩ (.int .i64 a.1.2.2)) :=
                    (((BEL.out.trans (((Below.refl _ _).alloc BEL.out.size _).trans (f6.below (by have := RS.out.st.lt; simp; omega) |>.mono HQB.out))).setCell BEL.out.size _).setCell BEL.out.size _).setCell BEL.out.size _
                  have B6 := Lib.hid b6
                  have MM : Hid (lenW (((w6.setCell ⟨wr.heap.size, 0, none⟩ (.int .i64 a.1.1)).setCell ⟨wr.heap.size, 1, none⟩ (.int .i64 a.1.2.1)).setCell ⟨wr.heap.size, 2, none⟩ (.int .i64 a.1.2.2)) QB < (l.length + (4098 - N))) := by
                    show _ < _
                    rw [NX.out.1.lenW, PL]
                    have := MEAS.out
                    omega
                  clear s6 f6 ha hlt2 PL b6 n0 n1 n2 ll q9
                  go_wp2_with fail
                  go_roundw
                  case rel => exact ⟨_, _, _, _, _, rfl, NX.out.1, NX.out.2.1, B6.out, .inl ⟨rfl, TP.out⟩⟩
                  case measure => rw [M0.out]; have := MM.out; simp only [tick]; omega
                · have NX := Lib.hid (RS.out.next ((v : Int), (W : Int), (k : Int)) (0, 0, 0) s6 f6)
                  have DJ2 : Hid (Dj D n b lab1 [] (v :: X) [] N1 (128 * (W : Int) + (k : Int))) := by have := DJ.out; rw [hnil] at this; exact this
                  obtain ⟨e0, e1, e2, e3, e4, e5⟩ := NX.out.2.2.cells
                  have b6 : Below w.heap.size w (((w6.setCell ⟨wr.heap.size, 0, none⟩ (.int .i64 0)).setCell ⟨wr.heap.size, 1, none⟩ (.int .i64 0)).setCell ⟨wr.heap.size, 2, none⟩ (.int .i64 0)) :=
                    (((BEL.out.trans (((Below.refl _ _).alloc BEL.out.size _).trans (f6.below (by have := RS.out.st.lt; simp; omega) |>.mono HQB.out))).setCell BEL.out.size _).setCell BEL.out.size _).setCell BEL.out.size _
                  have B6 := Lib.hid b6
                  have MM : Hid (lenW (((w6.setCell ⟨wr.heap.size, 0, none⟩ (.int .i64 0)).setCell ⟨wr.heap.size, 1, none⟩ (.int .i64 0)).setCell ⟨wr.heap.size, 2, none⟩ (.int .i64 0)) QB ≤ (l.length + (4098 - N))) := by
                    show _ ≤ _
                    have := NX.out.1.lenW
                    simp only at this
                    rw [this]
                    have := MEAS.out
                    simp only [List.length_nil, Nat.zero_add]
                    omega
                  clear s6 f6 hnil b6 n0 n1 n2 ll q9
                  go_wp2_with fail
                  go_roundw
                  case rel => exact ⟨_, _, _, _, _, rfl, NX.out.1, NX.out.2.1, B6.out, .inr ⟨rfl, _, _, DJ2.out⟩⟩
                  case measure => rw [M0.out]; have := MM.out; simp only [tick]; omega
        · have dn := Lib.hid (dj.done hn HI.out HW.out)
          have RS := Lib.hid rs
          have BEL := Lib.hid bel
          obtain ⟨g0, g1, -⟩ := rs.cells hb
          clear hrel rs vis bel dj
          go_wp2_with fail
          go_ret
          exact ⟨_, _, rfl, RS.out.own, dn.out, BEL.out⟩
end Go.Proofs.Ytibakhobgfiklaa
namespace Go.Proofs.Ytibakhobgfiklaa
open Go.RowKit

/-! ### Rows filled from the first element on -/
def partG {β : Type} (z : β) (xs : List β) (n k : Nat) : List β := xs.take k ++ List.replicate (n - k) z
section
variable {β : Type} {z : β} {xs : List β} {n k : Nat}
theorem partG_len (h : xs.length = n) (hk : k ≤ n) : (partG z xs n k).length = n := by unfold partG; rw [List.length_append, List.length_take, List.length_replicate]; omega
theorem partG_zero (z : β) (xs : List β) (n : Nat) : partG z xs n 0 = List.replicate n z := by unfold partG; simp
theorem partG_all (h : xs.length = n) : partG z xs n n = xs := by unfold partG; rw [Nat.sub_self, List.replicate_zero, List.append_nil, List.take_of_length_le (by omega)]
theorem partG_at (h : xs.length = n) (hk : k < n) : (partG z xs n k)[k]? = some z := by
  unfold partG
  rw [List.getElem?_append_right (by rw [List.length_take]; omega), List.length_take, Nat.min_eq_left (by omega), Nat.sub_self, List.getElem?_replicate, if_pos (by omega)]
theorem partG_old (h : xs.length = n) {i : Nat} (hi : i < k) (hk : k ≤ n) : (partG z xs n k)[i]? = xs[i]? := by
  unfold partG
  rw [List.getElem?_append_left (by rw [List.length_take]; omega), List.getElem?_take, if_pos hi]
theorem partG_set (h : xs.length = n) {y : β} (hy : xs[k]? = some y) : (partG z xs n k).set k y = partG z xs n (k + 1) := by
  have hk : k < n := by rw [← h]; exact (List.getElem?_eq_some_iff.1 hy).1
  unfold partG
  rw [List.set_append_right _ _ (by rw [List.length_take]; omega), List.length_take, Nat.min_eq_left (by omega), Nat.sub_self, show n - k = (n - (k + 1)) + 1 by omega, List.replicate_succ, List.set_cons_zero, take_at xs k y hy, List.append_assoc]
  rfl
end

/-! ### reversed -/
theorem fl_set3 : ∀ (l : List Ed) (i : Nat) (a : Ed), i < l.length → (((fl de l).set (i * 3) (.int .i64 (a.1 : Int))).set (i * 3 + 1) (.int .i64 (a.2.1 : Int))).set (i * 3 + 2) (.int .i64 (a.2.2 : Int)) = fl de (l.set i a)
  | [], _, _, hi => by simp at hi
  | b :: r, 0, a, _ => by
    rw [fl_cons, List.set_cons_zero, fl_cons]
    rfl
  | b :: r, i + 1, a, hi => by
    rw [List.set_cons_succ, fl_cons, fl_cons, ← fl_set3 r i a (by simpa using hi)]
    rw [show (i + 1) * 3 = i * 3 + 1 + 1 + 1 by omega, show i * 3 + 1 + 1 + 1 + 1 = (i * 3 + 1) + 1 + 1 + 1 by omega, show i * 3 + 1 + 1 + 1 + 2 = (i * 3 + 2) + 1 + 1 + 1 by omega]
    rfl
theorem OwnEd.put {w : World} {base g c n : Nat} {l : List Ed} (hl : l.length = n) (h : OwnEd w base (.slice (some ⟨g, 0, none⟩) n c) l) {i : Nat} (hi : i < n) (a : Ed) :
    OwnEd (((w.setCell ⟨g, i * 3, none⟩ (.int .i64 (a.1 : Int))).setCell ⟨g, i * 3 + 1, none⟩ (.int .i64 (a.2.1 : Int))).setCell ⟨g, i * 3 + 2, none⟩ (.int .i64 (a.2.2 : Int))) base (.slice (some ⟨g, 0, none⟩) n c) (l.set i a) := by
  subst hl
  have h1 := (World.ownsRow.stored h (i * 3) (.int .i64 (a.1 : Int))).1
  have h2 := (World.ownsRow.stored h1 (i * 3 + 1) (.int .i64 (a.2.1 : Int))).1
  have h3 := (World.ownsRow.stored h2 (i * 3 + 2) (.int .i64 (a.2.2 : Int))).1
  rw [fl_set3 l i a hi] at h3
  show World.ownsRow _ base _ 3 _ (l.set i a).length (fl de (l.set i a))
  rw [List.length_set]
  exact h3
theorem OwnEd.at {w : World} {base g c n : Nat} {l : List Ed} (hl : l.length = n) (h : OwnEd w base (.slice (some ⟨g, 0, none⟩) n c) l) {i : Nat} {a : Ed} (ha : l[i]? = some a) :
    w.cell? ⟨g, i * 3, none⟩ = some (.int .i64 (a.1 : Int)) ∧ w.cell? ⟨g, i * 3 + 1, none⟩ = some (.int .i64 (a.2.1 : Int)) ∧ w.cell? ⟨g, i * 3 + 2, none⟩ = some (.int .i64 (a.2.2 : Int)) ∧ w.frozen? ⟨g, i * 3, none⟩ = false ∧ w.frozen? ⟨g, i * 3 + 1, none⟩ = false ∧ w.frozen? ⟨g, i * 3 + 2, none⟩ = false := by
  subst hl
  have hi := (List.getElem?_eq_some_iff.1 ha).1
  refine ⟨?_, ?_, ?_, World.ownsRow.frozenAt h _, World.ownsRow.frozenAt h _, World.ownsRow.frozenAt h _⟩
  · rw [World.ownsRow.cellAt h _ (by omega)]; exact fl_at de_len ha 0 (by omega)
  · rw [World.ownsRow.cellAt h _ (by omega)]; exact fl_at de_len ha 1 (by omega)
  · rw [World.ownsRow.cellAt h _ (by omega)]; exact fl_at de_len ha 2 (by omega)
theorem turn_at {L : List Ed} {k : Nat} {e : Ed} (h : L[k]? = some e) : (turnL L)[k]? = some (e.2.1, e.1, e.2.2) := by unfold turnL; rw [List.getElem?_map, h]; rfl
theorem turn_len (L : List Ed) : (turnL L).length = L.length := by unfold turnL; rw [List.length_map]
/-! ### distances -/
theorem ints_rep (n : Nat) (x : Int) : (ints (List.replicate n x)).toArray = Array.replicate n (Value.int .i64 x) := by simp [ints]
theorem mkI_rep (n : Nat) (hn : n ≤ 4096) (e : Int) (he : e = n) (W : World) : (Instr.makeSlice 39 (.int .i64 e) (.int .i64 e)).run Try.prog W = .ok (.slice (some ⟨W.heap.size, 0, none⟩) n n) (W.alloc (.cells (Array.replicate n (Value.int .i64 0)) 3 (0, 0))) := by rw [← ints_rep]; exact mkI_run n hn e he W
theorem ownI_rep (w : World) (n : Nat) (hn : n ≤ 4096) : OwnI (w.alloc (.cells (Array.replicate n (Value.int .i64 0)) 3 (0, 0))) w.heap.size (.slice (some ⟨w.heap.size, 0, none⟩) n n) (List.replicate n 0) := by
  have := ownI_made w (Nat.le_refl _) (List.replicate n (0 : Int)) (by rw [List.length_replicate]; unfold maxLen; omega)
  rw [List.length_replicate, ints_rep] at this
  exact this
theorem distC_far {c : Ct} (h : c.1 = 68719476736) : distC c = -1 := by unfold distC; rw [if_pos h]
theorem distC_near {c : Ct} (h : c.1 ≠ 68719476736) : distC c = c.1 := by unfold distC; rw [if_neg h]
set_option maxRecDepth 100000 in
set_option maxHeartbeats 4000000 in
theorem distances_any (n b mb : Nat) (V : Int → Value) (D : List Ed) (hn : n ≤ 64) (hb : b < n) (hD : D.length ≤ 4096) (hi : Inn D n) (hw : ∀ e ∈ D, e.2.2 ≤ 1073741824) (w : World) (hm : NbrL w mb V D) :
    Calls Try.prog 63 #[.int .i64 (n : Int), .map (some mb), .int .i64 (b : Int)] w fun e w' => ∃ u, e = .returned u ∧ OwnI w' w.heap.size u (distL n D b) ∧ Below w.heap.size w w' := by
  have MK := mkI_rep n (by omega) (n : Int) rfl
  obtain ⟨w1, hw1⟩ : ∃ x, w.alloc (.cells (Array.replicate n (Value.int .i64 0)) 3 (0, 0)) = x := ⟨_, rfl⟩
  have O1 : Hid (OwnI w1 w.heap.size (.slice (some ⟨w.heap.size, 0, none⟩) n n) (List.replicate n 0)) := by
    have := ownI_rep w n (by omega)
    rw [hw1] at this
    exact this
  have b1 : Below w.heap.size w w1 := by rw [← hw1]; exact (Below.refl _ _).alloc (Nat.le_refl _) _
  have Z1 : Hid (w1.heap.size = w.heap.size + 1) := by show _ = _; rw [← hw1]; simp
  have C := Lib.hid (least_any n b mb V D hn hb hD hi hw w1 (hm.below b1))
  have HI := Lib.hid hi
  have B1 := Lib.hid b1
  clear hi hw hm b1
  go_enter Try.func63, Try.ntmps63
  go_wp2_with fail
  refine C.out.mono ?_
  rintro e w2 ⟨u, lab, rfl, own, lc, b2⟩
  have hlab := lc.1
  rcases own.low with ⟨-, hnil⟩ | ⟨g, c, rfl, g0, g1, hc⟩
  · rw [hnil] at hlab; simp at hlab; omega
  rw [hlab] at own
  have DX := Lib.hid (lc.dist hn hb HI.out)
  have OC := Lib.hid own
  have B2 : Hid (Below w.heap.size w w2) := B1.out.trans (b2.mono B1.out.size)
  have O2 : Hid (OwnI w2 w.heap.size (.slice (some ⟨w.heap.size, 0, none⟩) n n) (partG 0 (lab.map distC) n 0)) := by
    show OwnI _ _ _ _
    rw [partG_zero]
    exact O1.out.below b2
  rw [hlab]
  clear own lc b2 O1 B1 C MK hw1 HI g1
  go_wp2_with fail
  go_loopw [17] (fun i wr => ∃ k : Nat, i = .int .i64 k ∧ k ≤ n ∧ Hid (OwnI wr w.heap.size (.slice (some ⟨w.heap.size, 0, none⟩) n n) (partG 0 (lab.map distC) n k)) ∧ Hid (OwnC wr w1.heap.size (.slice (some ⟨g, 0, none⟩) n c) lab) ∧ Hid (Below w.heap.size w wr)) (fun i _ => n - (intOf i).toNat)
  case atStart => exact ⟨0, rfl, Nat.zero_le _, O2, OC, B2⟩
  case round =>
    clear O2 OC B2
    obtain ⟨k, rfl, hk, HO, HC, HB⟩ := hrel
    have hml : (lab.map distC).length = n := by rw [List.length_map, hlab]
    by_cases hlt : k < n
    · obtain ⟨a, ha⟩ := at_lt (l := lab) (k := k) (by omega)
      obtain ⟨r0, r1, -, -⟩ := OwnC.atn hlab HC.out ha
      have gk : (k : Int) < (n : Int) := by omega
      obtain ⟨w7, hw7⟩ : ∃ W, wr.alloc (.cells #[.int .i64 a.1, .int .i64 a.2] 101 (0, 0)) = W := ⟨_, rfl⟩
      have b7 : Below wr.heap.size wr w7 := by rw [← hw7]; exact (Below.refl _ _).alloc (Nat.le_refl _) _
      have c7 : w7.heap[wr.heap.size]? = some (.cells #[.int .i64 a.1, .int .i64 a.2] 101 (0, 0)) := by rw [← hw7]; exact heap_alloc_new _ _
      have hz := HB.out.size
      have HL := Lib.hid (lt_of_heap c7)
      have O7 := Lib.hid (HO.out.below b7)
      have C7 := Lib.hid (HC.out.below b7)
      have B7 : Hid (Below w.heap.size w w7) := HB.out.trans (b7.mono hz)
      have hwl : w.heap.size < wr.heap.size := by
        rcases HO.out.low with ⟨h', -⟩ | ⟨g'', c'', h', -, h4, -⟩
        · cases h'
        · have e := congrArg Value.ownBlock h'
          simp [Value.ownBlock] at e
          omega
      have hne : wr.heap.size ≠ w.heap.size := by omega
      have hpl := partG_len (z := (0 : Int)) hml hk
      obtain ⟨q0, f0⟩ := OwnI.atn hpl O7.out (partG_at hml hlt)
      have hma : (lab.map distC)[k]? = some (distC a) := by rw [List.getElem?_map, ha]; rfl
      have p0 : w7.cell? ⟨wr.heap.size, 0, none⟩ = some (.int .i64 a.1) := by rw [cell_of_row _ _ 0 _ _ _ c7]; rfl
      obtain ⟨w8, hw8⟩ : ∃ W, w7.setCell ⟨w.heap.size, k, none⟩ (.int .i64 a.1) = W := ⟨_, rfl⟩
      have c8 : w8.heap[wr.heap.size]? = some (.cells #[.int .i64 a.1, .int .i64 a.2] 101 (0, 0)) := by rw [← hw8, RowKit.Below.heap_setCell _ _ _ _ hne]; exact c7
      have p8 : w8.cell? ⟨wr.heap.size, 0, none⟩ = some (.int .i64 a.1) := by rw [cell_of_row _ _ 0 _ _ _ c8]; rfl
      have O8 : Hid (OwnI w8 w.heap.size (.slice (some ⟨w.heap.size, 0, none⟩) n n) ((partG 0 (lab.map distC) n k).set k a.1)) := by rw [← hw8]; exact OwnI.putn hpl O7.out k a.1
      have C8 : Hid (OwnC w8 w1.heap.size (.slice (some ⟨g, 0, none⟩) n c) lab) := by rw [← hw8]; exact ownsRow_setCell_below C7.out (by rw [Z1.out]; exact Nat.lt_succ_self _) _
      have B8 : Hid (Below w.heap.size w w8) := by rw [← hw8]; exact B7.out.setCell (Nat.le_refl _) _
      have PS := Lib.hid (partG_set (z := (0 : Int)) hml hma)
      have HPL := Lib.hid hpl
      clear ha b7 c7 c8 HO HC HB O7 C7 B7 hma hpl hne hwl hz HL hml
      by_cases hf : a.1 = 68719476736
      · have e1 := distC_far hf
        have hset : (((partG 0 (lab.map distC) n k).set k a.1).set k (-1)) = partG 0 (lab.map distC) n (k + 1) := by rw [List.set_set, ← PS.out, e1]
        have hpl8 : ((partG 0 (lab.map distC) n k).set k a.1).length = n := by rw [List.length_set]; exact HPL.out
        obtain ⟨q8, f8⟩ := OwnI.atn hpl8 O8.out (i := k) (x := a.1) (by rw [List.getElem?_set, if_pos rfl, if_pos (by rw [HPL.out]; exact hlt)])
        have O9 : Hid (OwnI (w8.setCell ⟨w.heap.size, k, none⟩ (.int .i64 (-1))) w.heap.size (.slice (some ⟨w.heap.size, 0, none⟩) n n) (partG 0 (lab.map distC) n (k + 1))) := by
          show OwnI _ _ _ _
          rw [← hset]
          exact OwnI.putn hpl8 O8.out k (-1)
        have C9 : Hid (OwnC (w8.setCell ⟨w.heap.size, k, none⟩ (.int .i64 (-1))) w1.heap.size (.slice (some ⟨g, 0, none⟩) n c) lab) := ownsRow_setCell_below C8.out (by rw [Z1.out]; exact Nat.lt_succ_self _) _
        have B9 : Hid (Below w.heap.size w (w8.setCell ⟨w.heap.size, k, none⟩ (.int .i64 (-1)))) := B8.out.setCell (Nat.le_refl _) _
        have t := beq_true hf
        clear O8 C8 B8 hset hpl8 e1 hf PS HPL
        go_wp2_with fail
        go_roundw
        case rel => exact ⟨k + 1, by go_num, by omega, O9, C9, B9⟩
        case measure => simp [intOf]; omega
      · have e1 := distC_near hf
        rw [e1] at PS
        have O9 : Hid (OwnI w8 w.heap.size (.slice (some ⟨w.heap.size, 0, none⟩) n n) (partG 0 (lab.map distC) n (k + 1))) := by
          show OwnI _ _ _ _
          rw [← PS.out]
          exact O8.out
        have t := beq_false hf
        clear O8 hf PS HPL e1
        go_wp2_with fail
        go_roundw
        case rel => exact ⟨k + 1, by go_num, by omega, O9, C8, B8⟩
        case measure => simp [intOf]; omega
    · have E : Hid (OwnI wr w.heap.size (.slice (some ⟨w.heap.size, 0, none⟩) n n) (distL n D b)) := by
        have := HO.out
        rw [show k = n by omega, partG_all hml, DX.out] at this
        exact this
      have d : decide (k < n) = false := by rw [decide_eq_false_iff_not]; exact hlt
      clear hlt HO hml
      go_wp2_with fail
      go_ret
      exact ⟨_, rfl, E.out, HB.out⟩
end Go.Proofs.Ytibakhobgfiklaa
namespace Go.Proofs.Ytibakhobgfiklaa
open Go.RowKit Go.Sort

theorem regrown_below {w0 wr w4 : World} (h : RowKit.Below w0.heap.size w0 wr) (h4 : ∃ p : Regrown, w4 = grow (redrawn wr p.d) p.os) : RowKit.Below w0.heap.size w0 w4 := by
  obtain ⟨p, rfl⟩ := h4
  exact h.trans ((below_regrown wr p.d p.os).mono h.size)
theorem eql_cost (a b : Ct) (q : Bool) (h : (decide (a = b)) = q) (W : World) : (binOp BinOp.eql 101 (.agg #[.int .i64 a.1, .int .i64 a.2]) (.agg #[.int .i64 b.1, .int .i64 b.2])).run Try.prog W = .ok (.bool q) W := by
  subst h
  obtain ⟨a1, a2⟩ := a
  obtain ⟨b1, b2⟩ := b
  by_cases h1 : a1 = b1
  · by_cases h2 : a2 = b2
    · subst h1 h2; go_simp
    · subst h1
      have : (a2 == b2) = false := beq_false h2
      go_simp
  · have : (a1 == b1) = false := beq_false h1
    go_simp
theorem step_yes {lab : List Ct} {a f : Nat} {e : Ed} (h : plusC (gl lab e.2.1) e.2.2 = gl lab a) : stepN lab a f e = min f e.2.1 := by unfold stepN; rw [if_pos h]
theorem step_not {lab : List Ct} {a f : Nat} {e : Ed} (h : plusC (gl lab e.2.1) e.2.2 ≠ gl lab a) : stepN lab a f e = f := by unfold stepN; rw [if_neg h]
theorem fold_take {lab : List Ct} {a : Nat} {l : List Ed} {q : Nat} {e : Ed} (h : l[q]? = some e) : (l.take (q + 1)).foldl (stepN lab a) 64 = stepN lab a ((l.take q).foldl (stepN lab a) 64) e := by
  rw [take_at l q e h, List.foldl_append]; rfl
theorem Lc.bnd {D : List Ed} {n b : Nat} {lab : List Ct} (h : Lc D n b lab) {i : Nat} (hi : i < n) : 0 ≤ (gl lab i).1 ∧ (gl lab i).1 ≤ 68719476736 ∧ 0 ≤ (gl lab i).2 ∧ (gl lab i).2 ≤ 128 := by
  rcases h.2 i hi with ⟨e, _⟩ | ⟨c, e, h1, _⟩
  · rw [e]; unfold farC; simp
  · rw [e]
    refine ⟨?_, ?_, ?_, ?_⟩ <;> simp only <;> omega
end Go.Proofs.Ytibakhobgfiklaa
namespace Go.Proofs.Ytibakhobgfiklaa
open Go.RowKit

theorem getI_of {d : List Int} {i : Nat} {x : Int} (h : d[i]? = some x) : d.getD i 0 = x := by rw [List.getD_eq_getElem?_getD, h]; rfl
theorem at_getI {d : List Int} {i : Nat} (h : i < d.length) : d[i]? = some (d.getD i 0) := by
  obtain ⟨x, hx⟩ := at_lt h
  rw [getI_of hx, hx]
/-- One step towards the root, or the root. -/
theorem Rt.next {par : List Int} {i r : Nat} (h : Rt par i r) : (i = r ∧ par.getD i 0 = (i : Int)) ∨ ∃ p : Nat, par.getD i 0 = (p : Int) ∧ p < i ∧ Rt par p r := by
  cases h with
  | root h => exact .inl ⟨rfl, h⟩
  | step a b c => exact .inr ⟨_, a, b, c⟩
/-! ### numbers -/
theorem rank_le (f : List Int) (k : Nat) : rank f k ≤ k := by
  unfold rank
  have := List.length_filter_le (fun j => decide (f.getD j 0 = (j : Int))) (List.range k)
  rw [List.length_range] at this
  exact this
theorem rank_yes {f : List Int} {k : Nat} (h : f.getD k 0 = (k : Int)) : rank f (k + 1) = rank f k + 1 := by rw [rank_succ, if_pos h]
theorem rank_no {f : List Int} {k : Nat} (h : f.getD k 0 ≠ (k : Int)) : rank f (k + 1) = rank f k := by rw [rank_succ, if_neg h, Nat.add_zero]
end Go.Proofs.Ytibakhobgfiklaa
namespace Go.Proofs.Ytibakhobgfiklaa
open Go.RowKit

/-! ### Components -/
theorem labS_at' {n k : Nat} (h : k < n) : (labS n)[k]? = some (k : Int) := by
  unfold labS
  rw [List.getElem?_map, List.getElem?_range h]
  rfl
end Go.Proofs.Ytibakhobgfiklaa
namespace Go.Proofs.Ytibakhobgfiklaa
open Go.RowKit

/-! ### Slices of slices -/
/-- A slice: its array, its length, its capacity. -/
abbrev SlT := Option Addr × Nat × Nat
def svV (t : SlT) : Value := .slice t.1 t.2.1 t.2.2
def sv (t : SlT) : List Value := [svV t]
theorem sv_len (t : SlT) : (sv t).length = 1 := rfl
theorem sv_one (t : SlT) : ∀ u ∈ sv t, u.oneCell' = true := by
  intro u hu
  simp [sv, svV] at hu
  subst hu
  rfl
theorem info_sl : (Try.prog.info? 39).map (fun i => (i.zero, i.size, i.bytes)) = some (some (.slice none 0 0), 1, 24) := by kernel_rfl
theorem fl_sv (l : List SlT) : fl sv l = l.map svV := by
  induction l with
  | nil => rfl
  | cons a r ih => rw [fl_cons, ih]; rfl
abbrev OwnL := @OwnG SlT sv 39 1
theorem OwnL.putn {w : World} {base g c n : Nat} {l : List SlT} (hl : l.length = n) (h : OwnL w base (.slice (some ⟨g, 0, none⟩) n c) l) (i : Nat) (t : SlT) : OwnL (w.setCell ⟨g, i, none⟩ (svV t)) base (.slice (some ⟨g, 0, none⟩) n c) (l.set i t) := by
  subst hl
  have h1 := (World.ownsRow.stored h i (svV t)).1
  have e : (fl sv l).set i (svV t) = fl sv (l.set i t) := by rw [fl_sv, fl_sv, List.map_set]
  rw [e] at h1
  show World.ownsRow _ base _ 1 _ (l.set i t).length _
  rw [List.length_set]
  exact h1
theorem OwnL.atn {w : World} {base g c n : Nat} {l : List SlT} (hl : l.length = n) (h : OwnL w base (.slice (some ⟨g, 0, none⟩) n c) l) {i : Nat} {t : SlT} (ht : l[i]? = some t) : w.cell? ⟨g, i, none⟩ = some (svV t) ∧ w.frozen? ⟨g, i, none⟩ = false := by
  subst hl
  have hi := (List.getElem?_eq_some_iff.1 ht).1
  refine ⟨?_, World.ownsRow.frozenAt h _⟩
  rw [World.ownsRow.cellAt h _ (by omega), fl_sv, List.getElem?_map, ht]
  rfl
/-- The value is a slice of slices that reads as these lists. -/
def LL (w : World) (u : Value) (ls : List (List Int)) : Prop := ∃ ts : List SlT, LstG sv w u ts ∧ ts.length = ls.length ∧ ∀ (i : Nat) t l, ts[i]? = some t → ls[i]? = some l → LstI w (svV t) l
theorem LL.below {w w' : World} {u : Value} {ls : List (List Int)} (h : LL w u ls) (hb : Below w.heap.size w w') : LL w' u ls := by
  obtain ⟨ts, h1, h2, h3⟩ := h
  exact ⟨ts, h1.below hb, h2, fun i t l ht hl => (h3 i t l ht hl).below hb⟩
theorem LL.nil (w : World) : LL w (.slice none 0 0) [] := ⟨[], LstG.nil _ _, rfl, fun i t l ht => by simp at ht⟩
/-- An element. -/
theorem LL.at {w : World} {A : Option Addr} {n c : Nat} {ls : List (List Int)} (h : LL w (.slice A n c) ls) {i : Nat} {l : List Int} (hl : ls[i]? = some l) : n = ls.length ∧ ∃ b o t, A = some ⟨b, o, none⟩ ∧ b < w.heap.size ∧ w.cell? ⟨b, o + i, none⟩ = some (svV t) ∧ LstI w (svV t) l := by
  obtain ⟨ts, ⟨A', c', hv, _, _, hx⟩, h2, h3⟩ := h
  have hi := (List.getElem?_eq_some_iff.1 hl).1
  cases hv
  obtain ⟨t, ht⟩ := at_lt (l := ts) (k := i) (by omega)
  obtain ⟨b, o, rfl, hb, hcell⟩ := hx (by omega)
  exact ⟨h2, b, o, t, rfl, hb, hcell i _ (by rw [fl_sv, List.getElem?_map, ht]; rfl), h3 i t l ht hl⟩
theorem LL.len {w : World} {u : Value} {ls : List (List Int)} (h : LL w u ls) : ∃ A c, u = .slice A ls.length c := by
  obtain ⟨ts, ⟨A, c, hv, _⟩, h2, _⟩ := h
  exact ⟨A, c, by rw [hv, h2]⟩
/-- The rows so far: each lies above g. -/
def Rows2 (w : World) (g : Nat) (ts : List SlT) (ls : List (List Int)) : Prop := ts.length = ls.length ∧ ∀ (i : Nat) t l, ts[i]? = some t → ls[i]? = some l → OwnI w g (svV t) l
theorem Rows2.below {w w' : World} {g : Nat} {ts : List SlT} {ls : List (List Int)} (h : Rows2 w g ts ls) (hb : Below w.heap.size w w') : Rows2 w' g ts ls := ⟨h.1, fun i t l ht hl => (h.2 i t l ht hl).below hb⟩
theorem Rows2.store {w : World} {g : Nat} {ts : List SlT} {ls : List (List Int)} (h : Rows2 w g ts ls) {p : Addr} (hp : p.block < g) (u : Value) : Rows2 (w.setCell p u) g ts ls := ⟨h.1, fun i t l ht hl => ownsRow_setCell_below (h.2 i t l ht hl) hp u⟩
theorem Rows2.snoc {w : World} {g : Nat} {ts : List SlT} {ls : List (List Int)} {t : SlT} {l : List Int} (h : Rows2 w g ts ls) (ho : OwnI w g (svV t) l) : Rows2 w g (ts ++ [t]) (ls ++ [l]) := by
  refine ⟨by simp [h.1], fun i t' l' ht hl => ?_⟩
  rw [List.getElem?_append] at ht hl
  rw [← h.1] at hl
  split at ht
  · next hi => rw [if_pos hi] at hl; exact h.2 i t' l' ht hl
  · next hi =>
    rw [if_neg hi] at hl
    obtain ⟨k, hk⟩ : ∃ k, i - ts.length = k := ⟨_, rfl⟩
    rw [hk] at ht hl
    cases k with
    | zero => simp at ht hl; rw [← ht, ← hl]; exact ho
    | succ k => simp at ht
theorem Rows2.ll {w : World} {g : Nat} {ts : List SlT} {ls : List (List Int)} (h : Rows2 w g ts ls) {u : Value} (hu : LstG sv w u ts) : LL w u ls := ⟨ts, hu, h.1, fun i t l ht hl => OwnI.lst (h.2 i t l ht hl)⟩
end Go.Proofs.Ytibakhobgfiklaa
namespace Go.Proofs.Ytibakhobgfiklaa
open Go.RowKit

/-! ### All -/
theorem rows_take (f : Nat → List Int) (k : Nat) : (List.range (k + 1)).map f = (List.range k).map f ++ [f k] := by rw [List.range_succ, List.map_append]; rfl
set_option maxRecDepth 100000 in
set_option maxHeartbeats 4000000 in
theorem kall_any (n : Int) (v : Value) (l : List Er) (hl : l.length ≤ 9223372036854775807) (w : World) (h : LstR w v l) :
    Calls Try.prog 44 #[.int .i64 n, v] w fun e w' => ∃ u, e = .returned (.tuple #[u, .int .i64 (chkR n l)]) ∧ LL w' u (ansA n l) ∧ Below w.heap.size w w' := by
  have CK := Lib.hid (check_any n v (.slice none 0 0) l [] hl (by simp) w h (LstI.nil w))
  rw [chkK_nil] at CK
  have H := Lib.hid h
  clear h
  by_cases hc : chkR n l = 0
  · obtain ⟨N, L, g⟩ := chkR_ok hc
    have hn := g.n_eq
    have A := Lib.hid (ansA_ok g hc)
    rw [hc] at CK ⊢
    subst hn
    have HL : Hid (LstD w v L) := by have := H.out; rw [g.l_eq] at this; exact this.down
    have hN := g.le
    have hm := g.many
    have HI := Lib.hid g.inn
    have HW := Lib.hid g.low
    clear hc H hl g
    have MK := fun W => mkG_run (enc := sv) (k := 1) sv_len (by decide) Try.underlying57 info_sl ((none, 0, 0) : SlT) rfl N (by omega) (by omega) (N : Int) rfl W
    go_enter Try.func44, Try.ntmps44
    go_wp2_with fail
    refine CK.out.mono ?_
    rintro e w1 ⟨rfl, c1⟩
    have B1 := Lib.hid c1
    clear c1 CK
    go_wp2_with fail
    refine (neighbors_any v L N hN HI.out hm w1 (HL.out.below B1.out)).mono ?_
    rintro e w2 ⟨mb, V, rfl, nb, b2⟩
    have B2 : Hid (Below w.heap.size w w2) := B1.out.trans (b2.mono B1.out.size)
    obtain ⟨w3, hw3⟩ : ∃ x, w2.alloc (.cells (fl sv (List.replicate N ((none, 0, 0) : SlT))).toArray 39 (0, 0)) = x := ⟨_, rfl⟩
    have O3 : Hid (OwnL w3 w2.heap.size (.slice (some ⟨w2.heap.size, 0, none⟩) N N) (([] : List SlT) ++ List.replicate (N - 0) (none, 0, 0))) := by
      have := ownG_made (enc := sv) (T := 39) sv_len w2 (Nat.le_refl _) (List.replicate N ((none, 0, 0) : SlT)) (by rw [List.length_replicate]; unfold maxLen; omega)
      rw [List.length_replicate, hw3] at this
      exact this
    have b23 : Below w2.heap.size w2 w3 := by rw [← hw3]; exact (Below.refl _ _).alloc (Nat.le_refl _) _
    have NB0 := Lib.hid nb
    have BG : Hid (Below w2.heap.size w2 w3) := b23
    have B3 : Hid (Below w.heap.size w w3) := B2.out.trans (b23.mono B2.out.size)
    have Z3 : Hid (w3.heap.size = w2.heap.size + 1) := by show _ = _; rw [← hw3]; simp
    have HZ : Hid (w.heap.size ≤ w2.heap.size) := B2.out.size
    clear nb b2 b23 B1 B2
    go_wp2_with fail
    clear MK hw3
    generalize hG : w2.heap.size = G at *
    have HG := Lib.hid hG
    clear hG
    go_loopw [22] (fun i wr => ∃ (k : Nat) (ts : List SlT), i = .int .i64 k ∧ k ≤ N ∧ Hid (Rows2 wr (G + 1) ts ((List.range k).map (distL N L))) ∧ Hid (OwnL wr G (.slice (some ⟨G, 0, none⟩) N N) (ts ++ List.replicate (N - k) (none, 0, 0))) ∧ Hid (Below G w2 wr) ∧ Hid (Below w.heap.size w wr) ∧ Hid (G + 1 ≤ wr.heap.size)) (fun i _ => N - (intOf i).toNat)
    case atStart => exact ⟨0, [], rfl, Nat.zero_le _, Lib.hid ⟨rfl, fun i t l ht => by simp at ht⟩, O3, BG, B3, Lib.hid (Nat.le_of_eq Z3.out.symm)⟩
    case round =>
      clear O3 BG B3
      obtain ⟨k, ts, rfl, hk, HR, HO, BG, HB, HS⟩ := hrel
      have htl : ts.length = k := by have := HR.out.1; rw [List.length_map, List.length_range] at this; exact this
      by_cases hlt : k < N
      · have gk : (k : Int) < (N : Int) := by omega
        have hpl : (ts ++ List.replicate (N - k) ((none, 0, 0) : SlT)).length = N := by rw [List.length_append, List.length_replicate]; omega
        have hat : (ts ++ List.replicate (N - k) ((none, 0, 0) : SlT))[k]? = some (none, 0, 0) := by
          rw [List.getElem?_append_right (by omega), htl, Nat.sub_self, List.getElem?_replicate, if_pos (by omega)]
        have HPL := Lib.hid hpl
        have HAT := Lib.hid hat
        have DC := Lib.hid (distances_any N k mb V L hN hlt hm HI.out HW.out wr (NB0.out.below (by rw [HG.out]; exact BG.out)))
        have HTL := Lib.hid htl
        clear hpl hat htl
        go_wp2_with fail
        refine DC.out.mono ?_
        rintro e w5 ⟨u, rfl, ow, b5⟩
        obtain ⟨A5, c5, rfl, -⟩ := own_shape ow
        obtain ⟨q0, f0⟩ := OwnL.atn HPL.out (HO.out.below b5) HAT.out
        have O6 : Hid (OwnL (w5.setCell ⟨G, k, none⟩ (.slice A5 (distL N L k).length c5)) G (.slice (some ⟨G, 0, none⟩) N N) ((ts ++ [((A5, (distL N L k).length, c5) : SlT)]) ++ List.replicate (N - (k + 1)) (none, 0, 0))) := by
          have h1 := OwnL.putn HPL.out (HO.out.below b5) k (A5, (distL N L k).length, c5)
          rw [List.set_append_right _ _ (by rw [HTL.out]; exact Nat.le_refl _), HTL.out, Nat.sub_self, show N - k = (N - (k + 1)) + 1 by omega, List.replicate_succ, List.set_cons_zero] at h1
          show OwnL _ _ _ _
          rw [List.append_assoc]
          exact h1
        have R6 : Hid (Rows2 (w5.setCell ⟨G, k, none⟩ (.slice A5 (distL N L k).length c5)) (G + 1) (ts ++ [((A5, (distL N L k).length, c5) : SlT)]) ((List.range (k + 1)).map (distL N L))) := by
          show Rows2 _ _ _ _
          rw [rows_take]
          exact ((HR.out.below b5).snoc (t := (A5, (distL N L k).length, c5)) (own_down (show World.ownsRow w5 wr.heap.size 3 1 (svV (A5, (distL N L k).length, c5)) _ _ from ow) HS.out)).store (Nat.lt_succ_self G) _
        have G6 : Hid (Below G w2 (w5.setCell ⟨G, k, none⟩ (.slice A5 (distL N L k).length c5))) := (BG.out.trans (b5.mono (Nat.le_trans (Nat.le_succ G) HS.out))).setCell (Nat.le_refl _) _
        have B6 : Hid (Below w.heap.size w (w5.setCell ⟨G, k, none⟩ (.slice A5 (distL N L k).length c5))) := (HB.out.trans (b5.mono HB.out.size)).setCell HZ.out _
        have S6 : Hid (G + 1 ≤ (w5.setCell ⟨G, k, none⟩ (.slice A5 (distL N L k).length c5)).heap.size) := by
          have : (w5.setCell ⟨G, k, none⟩ (.slice A5 (distL N L k).length c5)).heap.size = w5.heap.size := by simp [World.setCell]
          show _ ≤ _
          rw [this]
          exact Nat.le_trans HS.out b5.size
        have q1 : w5.cell? ⟨G, k, none⟩ = some (.slice none 0 0) := q0
        clear ow b5 HR HO BG HB HS HPL HAT DC q0
        go_wp2_with fail
        go_roundw
        case rel => exact ⟨k + 1, _, by go_num, by omega, R6, O6, G6, B6, S6⟩
        case measure => simp [intOf]; omega
      · have d : decide (k < N) = false := by rw [decide_eq_false_iff_not]; exact hlt
        have K : Hid (LL wr (.slice (some ⟨G, 0, none⟩) N N) (ansA (N : Int) l) ∧ Below w.heap.size w wr) := by
          refine ⟨?_, HB.out⟩
          have h1 := HO.out
          have h2 := HR.out
          rw [show k = N by omega, Nat.sub_self, List.replicate_zero, List.append_nil] at h1
          rw [show k = N by omega] at h2
          rw [A.out]
          exact h2.ll (OwnG.lst h1)
        clear hlt HO HR BG HB HS htl
        go_wp2_with fail
        go_ret2
        exact ⟨_, rfl, K.out⟩
  · have A := Lib.hid (ansA_bad hc)
    have t := bne_true (a := chkR n l) (b := 0) hc
    generalize chkR n l = q at CK t ⊢
    clear hc H hl
    go_enter Try.func44, Try.ntmps44
    go_wp2_with fail
    refine CK.out.mono ?_
    rintro e w1 ⟨rfl, c1⟩
    have B1 := Lib.hid c1
    clear c1 CK
    go_wp2_with fail
    go_ret2
    exact ⟨_, rfl, by rw [A.out]; exact LL.nil _, B1.out⟩
end Go.Proofs.Ytibakhobgfiklaa
