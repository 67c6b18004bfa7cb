/-
  Graphs: what an edge list is checked for, edges as cells, rows of ints and of structs made, read and stored into. Condition: none beyond each theorem's own hypotheses.
-/
import Derived.Test.YtahbgafjljfndaaPth
import Derived.Test.YtahbgafjljfndaaUni
import Derived.Test.YtahbgafjljfndaaFrm
import Derived.Deep.OwnRows
namespace Go.Proofs.Ytahbgafjljfndaa
open Go.RowKit

/-! ### What is checked -/
/-- An edge as it comes in. -/
abbrev Er := Int × Int × Int
def chkE (n : Int) (e : Er) : Int := if e.1 < 0 ∨ n ≤ e.1 ∨ e.2.1 < 0 ∨ n ≤ e.2.1 then 9 else if e.2.2 < 0 ∨ 1073741824 < e.2.2 then 2 else 0
def chkL (n : Int) : List Er → Int
  | [] => 0
  | e :: l => if chkE n e = 0 then chkL n l else chkE n e
def chkR (n : Int) (l : List Er) : Int := if n < 0 ∨ 64 < n then 2 else if 4096 < l.length then 5 else chkL n l
def chkN (n : Int) : List Int → Int
  | [] => 0
  | x :: l => if x < 0 ∨ n ≤ x then 9 else chkN n l
theorem chkL_drop {n : Int} {l : List Er} {k : Nat} {e : Er} (h : l[k]? = some e) : chkL n (l.drop k) = if chkE n e = 0 then chkL n (l.drop (k + 1)) else chkE n e := by
  rw [drop_at l k e h]; rfl
theorem chkN_drop {n : Int} {l : List Int} {k : Nat} {x : Int} (h : l[k]? = some x) : chkN n (l.drop k) = if x < 0 ∨ n ≤ x then 9 else chkN n (l.drop (k + 1)) := by
  rw [drop_at l k x h]; rfl
/-- An edge of a checked graph as it came in. -/
def upE (e : Ed) : Er := ((e.1 : Int), (e.2.1 : Int), (e.2.2 : Int))
theorem chkE_ok {N : Nat} {e : Er} (h : chkE N e = 0) : ∃ d : Ed, e = upE d ∧ d.1 < N ∧ d.2.1 < N ∧ d.2.2 ≤ 1073741824 := by
  unfold chkE at h
  split at h
  · omega
  · split at h
    · omega
    · obtain ⟨a, b, c⟩ := e
      simp only at *
      refine ⟨(a.toNat, b.toNat, c.toNat), ?_, ?_, ?_, ?_⟩
      · unfold upE
        simp only
        rw [Int.toNat_of_nonneg (by omega), Int.toNat_of_nonneg (by omega), Int.toNat_of_nonneg (by omega)]
      · simp only; omega
      · simp only; omega
      · simp only; omega
theorem chkL_ok {N : Nat} : ∀ {l : List Er}, chkL N l = 0 → ∃ L : List Ed, l = L.map upE ∧ Inn L N ∧ ∀ e ∈ L, e.2.2 ≤ 1073741824
  | [], _ => ⟨[], rfl, (fun e he => by cases he), (fun e he => by cases he)⟩
  | e :: l, h => by
    unfold chkL at h
    split at h
    · next h0 =>
      obtain ⟨d, hd, h1, h2, h3⟩ := chkE_ok h0
      obtain ⟨L, hL, g1, g2⟩ := chkL_ok h
      refine ⟨d :: L, by rw [hd, hL]; rfl, fun x hx => ?_, fun x hx => ?_⟩
      · rcases List.mem_cons.1 hx with rfl | hx
        · exact ⟨h1, h2⟩
        · exact g1 x hx
      · rcases List.mem_cons.1 hx with rfl | hx
        · exact h3
        · exact g2 x hx
    · next h0 => exact absurd h h0
/-- What a checked graph is. -/
structure Graph (n : Int) (l : List Er) (N : Nat) (L : List Ed) : Prop where
  n_eq : n = (N : Int)
  le : N ≤ 64
  l_eq : l = L.map upE
  many : L.length ≤ 4096
  inn : Inn L N
  low : ∀ e ∈ L, e.2.2 ≤ 1073741824
theorem chkR_ok {n : Int} {l : List Er} (h : chkR n l = 0) : ∃ N L, Graph n l N L := by
  unfold chkR at h
  split at h
  · omega
  · split at h
    · omega
    · obtain ⟨N, rfl⟩ : ∃ N : Nat, n = (N : Int) := ⟨n.toNat, by omega⟩
      obtain ⟨L, hL, h1, h2⟩ := chkL_ok h
      exact ⟨N, L, rfl, by omega, hL, by have := congrArg List.length hL; rw [List.length_map] at this; omega, h1, h2⟩
theorem chkR_range (n : Int) (l : List Er) : chkR n l = 0 ∨ chkR n l = 2 ∨ chkR n l = 5 ∨ chkR n l = 9 := by
  have h : ∀ l : List Er, chkL n l = 0 ∨ chkL n l = 2 ∨ chkL n l = 9 := by
    intro l
    induction l with
    | nil => exact .inl rfl
    | cons e l ih =>
      unfold chkL
      split
      · exact ih
      · unfold chkE; split
        · exact .inr (.inr rfl)
        · split
          · exact .inr (.inl rfl)
          · exact .inl rfl
  unfold chkR
  split
  · exact .inr (.inl rfl)
  · split
    · exact .inr (.inr (.inl rfl))
    · rcases h l with x | x | x <;> simp [x]
theorem Graph.turn {n : Int} {l : List Er} {N : Nat} {L : List Ed} (h : Graph n l N L) : Inn (turnL L) N ∧ ∀ e ∈ turnL L, e.2.2 ≤ 1073741824 := by
  refine ⟨h.inn.turn, fun e he => ?_⟩
  obtain ⟨x, hx, rfl⟩ := List.mem_map.1 he
  exact h.low x hx

/-! ### Edges in memory -/
/-- An edge as it came in, as cells. -/
def er (e : Er) : List Value := [.int .i64 e.1, .int .i64 e.2.1, .int .i64 e.2.2]
theorem er_len (e : Er) : (er e).length = 3 := rfl
theorem er_one (e : Er) : ∀ u ∈ er e, u.oneCell' = true := by
  intro u hu
  simp [er] at hu
  rcases hu with rfl | rfl | rfl <;> rfl
/-- An edge of a checked graph, as cells. -/
def de (e : Ed) : List Value := [.int .i64 (e.1 : Int), .int .i64 (e.2.1 : Int), .int .i64 (e.2.2 : Int)]
theorem de_len (e : Ed) : (de e).length = 3 := rfl
theorem de_one (e : Ed) : ∀ u ∈ de e, u.oneCell' = true := by
  intro u hu
  simp [de] at hu
  rcases hu with rfl | rfl | rfl <;> rfl
abbrev LstR := @LstG Er er
abbrev LstD := @LstG Ed de
theorem fl_up (L : List Ed) : fl er (L.map upE) = fl de L := by
  induction L with
  | nil => rfl
  | cons a r ih => rw [List.map_cons, fl_cons, fl_cons, ih]; rfl
theorem LstG.down {w : World} {v : Value} {L : List Ed} (h : LstR w v (L.map upE)) : LstD w v L := by
  obtain ⟨A, c, hv, hc, hn, hx⟩ := h
  rw [fl_up] at hx
  rw [List.length_map] at hv hc hx
  exact ⟨A, c, hv, hc, hn, hx⟩
theorem info_ed : (Try.prog.info? 47).map (fun i => (i.zero, i.size, i.bytes)) = some (some (.agg #[.int .i64 0, .int .i64 0, .int .i64 0]), 3, 24) := by kernel_rfl
theorem info_rd : (Try.prog.info? 45).map (fun i => (i.zero, i.size, i.bytes)) = some (some (.agg #[.int .i64 0, .int .i64 0, .int .i64 0]), 3, 24) := by kernel_rfl
/-- The three cells of an element. -/
theorem three_at {α : Type} {enc : α → List Value} (hk : ∀ a, (enc a).length = 3) {w : World} {A : Option Addr} {n c : Nat} {l : List α} (h : LstG enc w (.slice A n c) l) {i : Nat} {e : α} (hs : l[i]? = some e) {x y z : Value} (he : enc e = [x, y, z]) :
    ∃ b o, A = some ⟨b, o, none⟩ ∧ b < w.heap.size ∧ w.cell? ⟨b, o + i * 3, none⟩ = some x ∧ w.cell? ⟨b, o + i * 3 + 1, none⟩ = some y ∧ w.cell? ⟨b, o + i * 3 + 2, none⟩ = some z := by
  obtain ⟨A', c', hv, _, _, hx⟩ := h
  cases hv
  have hi := (List.getElem?_eq_some_iff.1 hs).1
  obtain ⟨b, o, rfl, hb, hcell⟩ := hx (by omega)
  refine ⟨b, o, rfl, hb, hcell (i * 3) _ (by rw [← Nat.add_zero (i * 3), fl_at hk hs 0 (by omega), he]; rfl), (hcell (i * 3 + 1) _ (by rw [fl_at hk hs 1 (by omega), he]; rfl) : _), (hcell (i * 3 + 2) _ (by rw [fl_at hk hs 2 (by omega), he]; rfl) : _)⟩
/-- A cost as cells. -/
def cc (c : Ct) : List Value := [.int .i64 c.1, .int .i64 c.2]
theorem cc_len (c : Ct) : (cc c).length = 2 := rfl
theorem info_ct : (Try.prog.info? 58).map (fun i => (i.zero, i.size, i.bytes)) = some (some (.agg #[.int .i64 0, .int .i64 0]), 2, 16) := by kernel_rfl
abbrev OwnC := @OwnG Ct cc 58 2
abbrev LstC := @LstG Ct cc
/-- The two cells of an element. -/
theorem two_at {w : World} {A : Option Addr} {n c : Nat} {l : List Ct} (h : LstC w (.slice A n c) l) {i : Nat} {e : Ct} (hs : l[i]? = some e) :
    ∃ b o, A = some ⟨b, o, none⟩ ∧ b < w.heap.size ∧ w.cell? ⟨b, o + i * 2, none⟩ = some (.int .i64 e.1) ∧ w.cell? ⟨b, o + i * 2 + 1, none⟩ = some (.int .i64 e.2) := by
  obtain ⟨A', c', hv, _, _, hx⟩ := h
  cases hv
  have hi := (List.getElem?_eq_some_iff.1 hs).1
  obtain ⟨b, o, rfl, hb, hcell⟩ := hx (by omega)
  exact ⟨b, o, rfl, hb, hcell (i * 2) _ (by rw [← Nat.add_zero (i * 2), fl_at cc_len hs 0 (by omega)]; rfl), (hcell (i * 2 + 1) _ (by rw [fl_at cc_len hs 1 (by omega)]; rfl) : _)⟩
/-- An int of a row. -/
theorem int_cell {w : World} {A : Option Addr} {n c : Nat} {l : List Int} (h : LstI w (.slice A n c) l) {i : Nat} {x : Int} (hs : l[i]? = some x) :
    ∃ b o, A = some ⟨b, o, none⟩ ∧ b < w.heap.size ∧ w.cell? ⟨b, o + i, none⟩ = some (.int .i64 x) := by
  obtain ⟨A', c', hv, _, _, hx⟩ := h
  cases hv
  have hi := (List.getElem?_eq_some_iff.1 hs).1
  obtain ⟨b, o, rfl, hb, hcell⟩ := hx (by omega)
  exact ⟨b, o, rfl, hb, hcell i _ (ints_at l i x hs)⟩

/-! ### Rows made and stored into -/
theorem ints_set (l : List Int) (i : Nat) (x : Int) : ints (l.set i x) = (ints l).set i (.int .i64 x) := by unfold ints; rw [List.map_set]
/-- A row of ints with its cells: at a block of its own. -/
def RowI (w : World) (g : Nat) (l : List Int) : Prop := ∃ cap, OwnI w g (.slice (some ⟨g, 0, none⟩) l.length cap) l
theorem OwnI.put {w : World} {base g c : Nat} {l : List Int} (h : OwnI w base (.slice (some ⟨g, 0, none⟩) l.length c) l) (i : Nat) (x : Int) : OwnI (w.setCell ⟨g, i, none⟩ (.int .i64 x)) base (.slice (some ⟨g, 0, none⟩) l.length c) (l.set i x) := by
  have h1 := (World.ownsRow.stored h i (.int .i64 x)).1
  unfold OwnI
  rw [List.length_set, ints_set]
  exact h1
theorem OwnI.at {w : World} {base g c : Nat} {l : List Int} (h : OwnI w base (.slice (some ⟨g, 0, none⟩) l.length c) l) {i : Nat} {x : Int} (hx : l[i]? = some x) : w.cell? ⟨g, i, none⟩ = some (.int .i64 x) ∧ w.frozen? ⟨g, i, none⟩ = false := by
  have hi := (List.getElem?_eq_some_iff.1 hx).1
  refine ⟨?_, World.ownsRow.frozenAt h _⟩
  rw [World.ownsRow.cellAt h _ (by omega)]
  exact ints_at l i x hx
theorem OwnI.low {w : World} {base : Nat} {v : Value} {l : List Int} (h : OwnI w base v l) : v = .slice none 0 0 ∧ l = [] ∨ ∃ g c, v = .slice (some ⟨g, 0, none⟩) l.length c ∧ base ≤ g ∧ g < w.heap.size ∧ l.length ≤ c := by
  rcases h.2 with ⟨h0, h1⟩ | ⟨g, cap, cur, hv, hbg, hg, hn, _⟩
  · exact .inl ⟨h0, List.length_eq_zero_iff.1 h1⟩
  · refine .inr ⟨g, cap, hv, hbg, ?_, hn⟩
    rcases Nat.lt_or_ge g w.heap.size with h | h
    · exact h
    · rw [Array.getElem?_eq_none h] at hg; cases hg
theorem fl_rep {α : Type} (enc : α → List Value) (a : α) : ∀ n, fl enc (List.replicate n a) = (List.replicate n (enc a)).flatten
  | 0 => rfl
  | n + 1 => by rw [List.replicate_succ, fl_cons, fl_rep enc a n, List.replicate_succ, List.flatten_cons]
theorem flat_at (xs : List Value) (k0 : 0 < xs.length) : ∀ (n i : Nat), i < n * xs.length → ((List.replicate n xs).flatten)[i]? = xs[i % xs.length]?
  | 0, i, h => by omega
  | n + 1, i, h => by
    rw [List.replicate_succ, List.flatten_cons, List.getElem?_append]
    split
    · next h1 => rw [Nat.mod_eq_of_lt h1]
    · next h1 =>
      rw [flat_at xs k0 n (i - xs.length) (by rw [Nat.add_mul] at h; omega)]
      congr 1
      rw [← Nat.mod_eq_sub_mod (by omega)]
/-- make([]T, n). -/
theorem mkG_run {α : Type} {enc : α → List Value} {k : Nat} {ST T : TypeId} {z : Value} {bytes : Nat} (hk : ∀ a, (enc a).length = k) (k0 : 0 < k) (hu : Try.prog.underlying ST = some (.slice T)) (hinfo : (Try.prog.info? T).map (fun i => (i.zero, i.size, i.bytes)) = some (some z, k, bytes)) (a0 : α) (hz0 : z.cells.toList = enc a0) (n : Nat) (hn : n * bytes ≤ 281474976710656) (hn2 : n ≤ 281474976710656) (e : Int) (he : e = n) (W : World) :
    (Instr.makeSlice ST (.int .i64 e) (.int .i64 e)).run Try.prog W = .ok (.slice (some ⟨W.heap.size, 0, none⟩) n n) (W.alloc (.cells (fl enc (List.replicate n a0)).toArray T (0, 0))) := by
  subst he
  obtain ⟨i, hi, hz, hsz, hby⟩ := info_parts hinfo
  have h := run_make (P := Try.prog) W ST T i _ hu hi hz .i64 .i64 n n (by omega) (by omega) (by rw [hby, ← Int.natCast_mul]; rw [Nat.mul_comm] at hn; omega) (by omega)
  rw [h, hsz]
  have e2 : madeCells z.cells (n * k) = (fl enc (List.replicate n a0)).toArray := by
    have hzs : z.cells.size = k := by rw [← Array.length_toList, hz0, hk]
    rw [fl_rep, ← hz0]
    have hl : ((List.replicate n z.cells.toList).flatten).length = n * k := by rw [List.length_flatten, List.map_replicate, List.sum_replicate_nat, Array.length_toList, hzs]
    unfold madeCells
    apply Array.ext_getElem?
    intro i
    by_cases hi : i < n * k
    · have h1 := flat_at z.cells.toList (by rw [Array.length_toList, hzs]; exact k0) n i (by rw [Array.length_toList, hzs]; exact hi)
      have e3 : ((List.replicate n z.cells.toList).flatten).toArray[i]? = ((List.replicate n z.cells.toList).flatten)[i]? := by simp
      rw [e3, h1, Array.length_toList, hzs]
      simp [hi]
      have : i % k < z.cells.size := by rw [hzs]; exact Nat.mod_lt _ k0
      rw [getElem!_pos z.cells _ this]
      exact (Array.getElem?_eq_getElem this).symm
    · rw [Array.getElem?_eq_none (by simpa using hi), Array.getElem?_eq_none (by simp only [List.size_toArray, hl]; omega)]
  simp only [Int.toNat_natCast]
  rw [e2]
theorem ownG_made {α : Type} {enc : α → List Value} {k : Nat} {T : TypeId} (hk : ∀ a, (enc a).length = k) (W : World) {base : Nat} (hb : base ≤ W.heap.size) (l : List α) (hl : l.length ≤ maxLen) : OwnG enc T k (W.alloc (.cells (fl enc l).toArray T (0, 0))) base (.slice (some ⟨W.heap.size, 0, none⟩) l.length l.length) l := by
  refine ⟨by rw [fl_len hk], .inr ⟨W.heap.size, l.length, (fl enc l).toArray, rfl, hb, heap_alloc_new _ _, Nat.le_refl _, hl, ?_, ?_⟩⟩
  · rw [List.size_toArray, fl_len hk]
  · show (fl enc l).take _ = _
    rw [List.take_of_length_le (by rw [fl_len hk]; exact Nat.le_refl _)]
/-- Ints as a row of one-cell elements. -/
def ic (x : Int) : List Value := [.int .i64 x]
theorem ic_len (x : Int) : (ic x).length = 1 := rfl
theorem fl_ic (l : List Int) : fl ic l = ints l := by
  induction l with
  | nil => rfl
  | cons a r ih => rw [fl_cons, ih]; rfl
theorem OwnG.ints {w : World} {base : Nat} {v : Value} {l : List Int} (h : OwnG ic 3 1 w base v l) : OwnI w base v l := by
  unfold OwnG at h
  rw [fl_ic] at h
  exact h
theorem info_int' : (Try.prog.info? 3).map (fun i => (i.zero, i.size, i.bytes)) = some (some (.int .i64 0), 1, 8) := info_int
/-- A new row of zeros. -/
theorem mkI_run (n : Nat) (hn : n ≤ 4096) (e : Int) (he : e = n) (W : World) : (Instr.makeSlice 25 (.int .i64 e) (.int .i64 e)).run Try.prog W = .ok (.slice (some ⟨W.heap.size, 0, none⟩) n n) (W.alloc (.cells (ints (List.replicate n 0)).toArray 3 (0, 0))) := by
  have := mkG_run (enc := ic) (k := 1) ic_len (by decide) Try.underlying25 info_int (0 : Int) rfl n (by omega) (by omega) e he W
  rw [fl_ic] at this
  exact this
theorem ownI_made (W : World) {base : Nat} (hb : base ≤ W.heap.size) (l : List Int) (hl : l.length ≤ maxLen) : OwnI (W.alloc (.cells (ints l).toArray 3 (0, 0))) base (.slice (some ⟨W.heap.size, 0, none⟩) l.length l.length) l := by
  have h := ownG_made (enc := ic) (T := 3) ic_len W hb l hl
  rw [fl_ic] at h
  exact h.ints
theorem fl_set {α : Type} {enc : α → List Value} (h2 : ∀ a, ∃ x y, enc a = [x, y]) : ∀ (l : List α) (i : Nat) (a : α) (x y : Value), enc a = [x, y] → i < l.length → ((fl enc l).set (i * 2) x).set (i * 2 + 1) y = fl enc (l.set i a)
  | [], _, _, _, _, _, hi => by simp at hi
  | b :: r, 0, a, x, y, he, _ => by
    obtain ⟨u, v, hb⟩ := h2 b
    rw [fl_cons, List.set_cons_zero, fl_cons, he, hb]
    rfl
  | b :: r, i + 1, a, x, y, he, hi => by
    obtain ⟨u, v, hb⟩ := h2 b
    rw [List.set_cons_succ, fl_cons, fl_cons, ← fl_set h2 r i a x y he (by simpa using hi), hb]
    rw [show (i + 1) * 2 = i * 2 + 1 + 1 by omega, show i * 2 + 1 + 1 + 1 = (i * 2 + 1) + 1 + 1 by omega]
    rfl
/-- A cost stored. -/
theorem OwnC.put {w : World} {base g c : Nat} {l : List Ct} (h : OwnC w base (.slice (some ⟨g, 0, none⟩) l.length c) l) {i : Nat} (hi : i < l.length) (a : Ct) : OwnC ((w.setCell ⟨g, i * 2, none⟩ (.int .i64 a.1)).setCell ⟨g, i * 2 + 1, none⟩ (.int .i64 a.2)) base (.slice (some ⟨g, 0, none⟩) l.length c) (l.set i a) := by
  have h1 := (World.ownsRow.stored h (i * 2) (.int .i64 a.1)).1
  have h2 := (World.ownsRow.stored h1 (i * 2 + 1) (.int .i64 a.2)).1
  rw [fl_set (enc := cc) (fun a => ⟨_, _, rfl⟩) l i a _ _ rfl hi] at h2
  show World.ownsRow _ base _ 2 _ (l.set i a).length (fl cc (l.set i a))
  rw [List.length_set]
  exact h2
theorem OwnC.at {w : World} {base g c : Nat} {l : List Ct} (h : OwnC w base (.slice (some ⟨g, 0, none⟩) l.length c) l) {i : Nat} {a : Ct} (ha : l[i]? = some a) :
    w.cell? ⟨g, i * 2, none⟩ = some (.int .i64 a.1) ∧ w.cell? ⟨g, i * 2 + 1, none⟩ = some (.int .i64 a.2) ∧ w.frozen? ⟨g, i * 2, none⟩ = false ∧ w.frozen? ⟨g, i * 2 + 1, none⟩ = false := by
  have hi := (List.getElem?_eq_some_iff.1 ha).1
  refine ⟨?_, ?_, World.ownsRow.frozenAt h _, World.ownsRow.frozenAt h _⟩
  · rw [World.ownsRow.cellAt h _ (by omega)]; exact fl_at cc_len ha 0 (by omega)
  · rw [World.ownsRow.cellAt h _ (by omega)]; exact fl_at cc_len ha 1 (by omega)
end Go.Proofs.Ytahbgafjljfndaa
