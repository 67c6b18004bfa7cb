/-
  The program's reversed and distances: what each call answers; nothing that existed before the call has changed behind it. Condition: a checked graph.
-/
import Derived.Test.YtahbgafjljfndaaKLc
namespace Go.Proofs.Ytahbgafjljfndaa
open Go.RowKit

/-! ### Rows filled from the first element on -/
def partG {β : Type} (z : β) (xs : List β) (n k : Nat) : List β := xs.take k ++ List.replicate (n - k) z
section
variable {β : Type} {z : β} {xs : List β} {n k : Nat}
theorem partG_len (h : xs.length = n) (hk : k ≤ n) : (partG z xs n k).length = n := by unfold partG; rw [List.length_append, List.length_take, List.length_replicate]; omega
theorem partG_zero (z : β) (xs : List β) (n : Nat) : partG z xs n 0 = List.replicate n z := by unfold partG; simp
theorem partG_all (h : xs.length = n) : partG z xs n n = xs := by unfold partG; rw [Nat.sub_self, List.replicate_zero, List.append_nil, List.take_of_length_le (by omega)]
theorem partG_at (h : xs.length = n) (hk : k < n) : (partG z xs n k)[k]? = some z := by
  unfold partG
  rw [List.getElem?_append_right (by rw [List.length_take]; omega), List.length_take, Nat.min_eq_left (by omega), Nat.sub_self, List.getElem?_replicate, if_pos (by omega)]
theorem partG_old (h : xs.length = n) {i : Nat} (hi : i < k) (hk : k ≤ n) : (partG z xs n k)[i]? = xs[i]? := by
  unfold partG
  rw [List.getElem?_append_left (by rw [List.length_take]; omega), List.getElem?_take, if_pos hi]
theorem partG_set (h : xs.length = n) {y : β} (hy : xs[k]? = some y) : (partG z xs n k).set k y = partG z xs n (k + 1) := by
  have hk : k < n := by rw [← h]; exact (List.getElem?_eq_some_iff.1 hy).1
  unfold partG
  rw [List.set_append_right _ _ (by rw [List.length_take]; omega), List.length_take, Nat.min_eq_left (by omega), Nat.sub_self, show n - k = (n - (k + 1)) + 1 by omega, List.replicate_succ, List.set_cons_zero, take_at xs k y hy, List.append_assoc]
  rfl
end

/-! ### reversed -/
theorem fl_set3 : ∀ (l : List Ed) (i : Nat) (a : Ed), i < l.length → (((fl de l).set (i * 3) (.int .i64 (a.1 : Int))).set (i * 3 + 1) (.int .i64 (a.2.1 : Int))).set (i * 3 + 2) (.int .i64 (a.2.2 : Int)) = fl de (l.set i a)
  | [], _, _, hi => by simp at hi
  | b :: r, 0, a, _ => by
    rw [fl_cons, List.set_cons_zero, fl_cons]
    rfl
  | b :: r, i + 1, a, hi => by
    rw [List.set_cons_succ, fl_cons, fl_cons, ← fl_set3 r i a (by simpa using hi)]
    rw [show (i + 1) * 3 = i * 3 + 1 + 1 + 1 by omega, show i * 3 + 1 + 1 + 1 + 1 = (i * 3 + 1) + 1 + 1 + 1 by omega, show i * 3 + 1 + 1 + 1 + 2 = (i * 3 + 2) + 1 + 1 + 1 by omega]
    rfl
theorem OwnEd.put {w : World} {base g c n : Nat} {l : List Ed} (hl : l.length = n) (h : OwnEd w base (.slice (some ⟨g, 0, none⟩) n c) l) {i : Nat} (hi : i < n) (a : Ed) :
    OwnEd (((w.setCell ⟨g, i * 3, none⟩ (.int .i64 (a.1 : Int))).setCell ⟨g, i * 3 + 1, none⟩ (.int .i64 (a.2.1 : Int))).setCell ⟨g, i * 3 + 2, none⟩ (.int .i64 (a.2.2 : Int))) base (.slice (some ⟨g, 0, none⟩) n c) (l.set i a) := by
  subst hl
  have h1 := (World.ownsRow.stored h (i * 3) (.int .i64 (a.1 : Int))).1
  have h2 := (World.ownsRow.stored h1 (i * 3 + 1) (.int .i64 (a.2.1 : Int))).1
  have h3 := (World.ownsRow.stored h2 (i * 3 + 2) (.int .i64 (a.2.2 : Int))).1
  rw [fl_set3 l i a hi] at h3
  show World.ownsRow _ base _ 3 _ (l.set i a).length (fl de (l.set i a))
  rw [List.length_set]
  exact h3
theorem OwnEd.at {w : World} {base g c n : Nat} {l : List Ed} (hl : l.length = n) (h : OwnEd w base (.slice (some ⟨g, 0, none⟩) n c) l) {i : Nat} {a : Ed} (ha : l[i]? = some a) :
    w.cell? ⟨g, i * 3, none⟩ = some (.int .i64 (a.1 : Int)) ∧ w.cell? ⟨g, i * 3 + 1, none⟩ = some (.int .i64 (a.2.1 : Int)) ∧ w.cell? ⟨g, i * 3 + 2, none⟩ = some (.int .i64 (a.2.2 : Int)) ∧ w.frozen? ⟨g, i * 3, none⟩ = false ∧ w.frozen? ⟨g, i * 3 + 1, none⟩ = false ∧ w.frozen? ⟨g, i * 3 + 2, none⟩ = false := by
  subst hl
  have hi := (List.getElem?_eq_some_iff.1 ha).1
  refine ⟨?_, ?_, ?_, World.ownsRow.frozenAt h _, World.ownsRow.frozenAt h _, World.ownsRow.frozenAt h _⟩
  · rw [World.ownsRow.cellAt h _ (by omega)]; exact fl_at de_len ha 0 (by omega)
  · rw [World.ownsRow.cellAt h _ (by omega)]; exact fl_at de_len ha 1 (by omega)
  · rw [World.ownsRow.cellAt h _ (by omega)]; exact fl_at de_len ha 2 (by omega)
theorem turn_at {L : List Ed} {k : Nat} {e : Ed} (h : L[k]? = some e) : (turnL L)[k]? = some (e.2.1, e.1, e.2.2) := by unfold turnL; rw [List.getElem?_map, h]; rfl
theorem turn_len (L : List Ed) : (turnL L).length = L.length := by unfold turnL; rw [List.length_map]
set_option maxRecDepth 100000 in
set_option maxHeartbeats 4000000 in
theorem reversed_any (v : Value) (L : List Ed) (hl : L.length ≤ 4096) (w : World) (h : LstD w v L) :
    Calls Try.prog 29 #[v] w fun e w' => ∃ u, e = .returned u ∧ OwnEd w' w.heap.size u (turnL L) ∧ Below w.heap.size w w' := by
  have H := Lib.hid h
  obtain ⟨A, c, rfl, -, -, -⟩ := h
  have MK := fun W => mkG_run (enc := de) (k := 3) de_len (by decide) Try.underlying29 info_ed ((0, 0, 0) : Ed) rfl L.length (by omega) (by omega) (L.length : Int) rfl W
  obtain ⟨w1, hw1⟩ : ∃ x, w.alloc (.cells (fl de (List.replicate L.length ((0, 0, 0) : Ed))).toArray 47 (0, 0)) = x := ⟨_, rfl⟩
  have O1 : Hid (OwnEd w1 w.heap.size (.slice (some ⟨w.heap.size, 0, none⟩) L.length L.length) (partG (0, 0, 0) (turnL L) L.length 0)) := by
    have := ownG_made (enc := de) (T := 47) de_len w (Nat.le_refl _) (List.replicate L.length ((0, 0, 0) : Ed)) (by rw [List.length_replicate]; unfold maxLen; omega)
    rw [List.length_replicate, hw1] at this
    rw [partG_zero]
    exact this
  have B1 : Hid (Below w.heap.size w w1) := by rw [← hw1]; exact (Below.refl _ _).alloc (Nat.le_refl _) _
  go_enter Try.func29, Try.ntmps29
  go_wp2_with fail
  clear MK hw1
  go_loopw [11] (fun i wr => ∃ k : Nat, i = .int .i64 k ∧ k ≤ L.length ∧ Hid (OwnEd wr w.heap.size (.slice (some ⟨w.heap.size, 0, none⟩) L.length L.length) (partG (0, 0, 0) (turnL L) L.length k)) ∧ Hid (Below w.heap.size w wr)) (fun i _ => L.length - (intOf i).toNat)
  case atStart => exact ⟨0, rfl, Nat.zero_le _, O1, B1⟩
  case round =>
    clear O1 B1
    obtain ⟨k, rfl, hk, HO, HB⟩ := hrel
    by_cases hlt : k < L.length
    · obtain ⟨e, he⟩ := at_lt hlt
      obtain ⟨b0, o, rfl, hb0, r0, r1, r2⟩ := three_at de_len (H.out.below HB.out) he rfl
      obtain ⟨x, y, z⟩ := e
      simp only at r0 r1 r2
      have gk : (k : Int) < (L.length : Int) := by omega
      obtain ⟨w7, hw7⟩ : ∃ W, wr.alloc (.cells #[.int .i64 (x : Int), .int .i64 (y : Int), .int .i64 (z : Int)] 47 (0, 0)) = W := ⟨_, rfl⟩
      have b7 : Below wr.heap.size wr w7 := by rw [← hw7]; exact (Below.refl _ _).alloc (Nat.le_refl _) _
      have c7 : w7.heap[wr.heap.size]? = some (.cells #[.int .i64 (x : Int), .int .i64 (y : Int), .int .i64 (z : Int)] 47 (0, 0)) := by rw [← hw7]; exact heap_alloc_new _ _
      have p0 : w7.cell? ⟨wr.heap.size, 0, none⟩ = some (.int .i64 (x : Int)) := by rw [cell_of_row _ _ 0 _ _ _ c7]; rfl
      have p1 : w7.cell? ⟨wr.heap.size, 1, none⟩ = some (.int .i64 (y : Int)) := by rw [cell_of_row _ _ 1 _ _ _ c7]; rfl
      have p2 : w7.cell? ⟨wr.heap.size, 2, none⟩ = some (.int .i64 (z : Int)) := by rw [cell_of_row _ _ 2 _ _ _ c7]; rfl
      have O7 := Lib.hid (HO.out.below b7)
      have hpl := partG_len (z := ((0, 0, 0) : Ed)) (turn_len L) hk
      obtain ⟨q0, q1, q2, f0, f1, f2⟩ := OwnEd.at hpl O7.out (partG_at (turn_len L) hlt)
      have O8 : Hid (OwnEd (((w7.setCell ⟨w.heap.size, k * 3, none⟩ (.int .i64 (y : Int))).setCell ⟨w.heap.size, k * 3 + 1, none⟩ (.int .i64 (x : Int))).setCell ⟨w.heap.size, k * 3 + 2, none⟩ (.int .i64 (z : Int))) w.heap.size (.slice (some ⟨w.heap.size, 0, none⟩) L.length L.length) (partG (0, 0, 0) (turnL L) L.length (k + 1))) := by
        show OwnEd _ _ _ _
        rw [← partG_set (turn_len L) (turn_at he)]
        exact OwnEd.put hpl O7.out hlt (y, x, z)
      have B8 : Hid (Below w.heap.size w (((w7.setCell ⟨w.heap.size, k * 3, none⟩ (.int .i64 (y : Int))).setCell ⟨w.heap.size, k * 3 + 1, none⟩ (.int .i64 (x : Int))).setCell ⟨w.heap.size, k * 3 + 2, none⟩ (.int .i64 (z : Int)))) :=
        (((HB.out.trans (b7.mono HB.out.size)).setCell (Nat.le_refl _) _).setCell (Nat.le_refl _) _).setCell (Nat.le_refl _) _
      clear he b7 c7 O7 hpl HO HB
      go_wp2_with fail
      go_roundw
      case rel => exact ⟨k + 1, by go_num, by omega, O8, B8⟩
      case measure => simp [intOf]; omega
    · have E : Hid (OwnEd wr w.heap.size (.slice (some ⟨w.heap.size, 0, none⟩) L.length L.length) (turnL L)) := by
        have := HO.out
        rw [show k = L.length by omega, partG_all (turn_len L)] at this
        exact this
      have d : decide (k < L.length) = false := by rw [decide_eq_false_iff_not]; exact hlt
      clear hlt HO
      go_wp2_with fail
      go_ret
      exact ⟨_, rfl, E.out, HB.out⟩

/-! ### distances -/
theorem ints_rep (n : Nat) (x : Int) : (ints (List.replicate n x)).toArray = Array.replicate n (Value.int .i64 x) := by simp [ints]
theorem mkI_rep (n : Nat) (hn : n ≤ 4096) (e : Int) (he : e = n) (W : World) : (Instr.makeSlice 25 (.int .i64 e) (.int .i64 e)).run Try.prog W = .ok (.slice (some ⟨W.heap.size, 0, none⟩) n n) (W.alloc (.cells (Array.replicate n (Value.int .i64 0)) 3 (0, 0))) := by rw [← ints_rep]; exact mkI_run n hn e he W
theorem ownI_rep (w : World) (n : Nat) (hn : n ≤ 4096) : OwnI (w.alloc (.cells (Array.replicate n (Value.int .i64 0)) 3 (0, 0))) w.heap.size (.slice (some ⟨w.heap.size, 0, none⟩) n n) (List.replicate n 0) := by
  have := ownI_made w (Nat.le_refl _) (List.replicate n (0 : Int)) (by rw [List.length_replicate]; unfold maxLen; omega)
  rw [List.length_replicate, ints_rep] at this
  exact this
theorem OwnI.atn {w : World} {base g c n : Nat} {l : List Int} (hl : l.length = n) (h : OwnI w base (.slice (some ⟨g, 0, none⟩) n c) l) {i : Nat} {x : Int} (hx : l[i]? = some x) : w.cell? ⟨g, i, none⟩ = some (.int .i64 x) ∧ w.frozen? ⟨g, i, none⟩ = false := by
  subst hl; exact OwnI.at h hx
theorem OwnI.putn {w : World} {base g c n : Nat} {l : List Int} (hl : l.length = n) (h : OwnI w base (.slice (some ⟨g, 0, none⟩) n c) l) (i : Nat) (x : Int) : OwnI (w.setCell ⟨g, i, none⟩ (.int .i64 x)) base (.slice (some ⟨g, 0, none⟩) n c) (l.set i x) := by
  subst hl; exact OwnI.put h i x
theorem distC_far {c : Ct} (h : c.1 = 68719476736) : distC c = -1 := by unfold distC; rw [if_pos h]
theorem distC_near {c : Ct} (h : c.1 ≠ 68719476736) : distC c = c.1 := by unfold distC; rw [if_neg h]
set_option maxRecDepth 100000 in
set_option maxHeartbeats 4000000 in
theorem distances_any (n b mb : Nat) (V : Int → Value) (D : List Ed) (hn : n ≤ 64) (hb : b < n) (hD : D.length ≤ 4096) (hi : Inn D n) (hw : ∀ e ∈ D, e.2.2 ≤ 1073741824) (w : World) (hm : NbrL w mb V D) :
    Calls Try.prog 24 #[.int .i64 (n : Int), .map (some mb), .int .i64 (b : Int)] w fun e w' => ∃ u, e = .returned u ∧ OwnI w' w.heap.size u (distL n D b) ∧ Below w.heap.size w w' := by
  have MK := mkI_rep n (by omega) (n : Int) rfl
  obtain ⟨w1, hw1⟩ : ∃ x, w.alloc (.cells (Array.replicate n (Value.int .i64 0)) 3 (0, 0)) = x := ⟨_, rfl⟩
  have O1 : Hid (OwnI w1 w.heap.size (.slice (some ⟨w.heap.size, 0, none⟩) n n) (List.replicate n 0)) := by
    have := ownI_rep w n (by omega)
    rw [hw1] at this
    exact this
  have b1 : Below w.heap.size w w1 := by rw [← hw1]; exact (Below.refl _ _).alloc (Nat.le_refl _) _
  have Z1 : Hid (w1.heap.size = w.heap.size + 1) := by show _ = _; rw [← hw1]; simp
  have C := Lib.hid (least_any n b mb V D hn hb hD hi hw w1 (hm.below b1))
  have HI := Lib.hid hi
  have B1 := Lib.hid b1
  clear hi hw hm b1
  go_enter Try.func24, Try.ntmps24
  go_wp2_with fail
  refine C.out.mono ?_
  rintro e w2 ⟨u, lab, rfl, own, lc, b2⟩
  have hlab := lc.1
  rcases own.low with ⟨-, hnil⟩ | ⟨g, c, rfl, g0, g1, hc⟩
  · rw [hnil] at hlab; simp at hlab; omega
  rw [hlab] at own
  have DX := Lib.hid (lc.dist hn hb HI.out)
  have OC := Lib.hid own
  have B2 : Hid (Below w.heap.size w w2) := B1.out.trans (b2.mono B1.out.size)
  have O2 : Hid (OwnI w2 w.heap.size (.slice (some ⟨w.heap.size, 0, none⟩) n n) (partG 0 (lab.map distC) n 0)) := by
    show OwnI _ _ _ _
    rw [partG_zero]
    exact O1.out.below b2
  rw [hlab]
  clear own lc b2 O1 B1 C MK hw1 HI g1
  go_wp2_with fail
  go_loopw [17] (fun i wr => ∃ k : Nat, i = .int .i64 k ∧ k ≤ n ∧ Hid (OwnI wr w.heap.size (.slice (some ⟨w.heap.size, 0, none⟩) n n) (partG 0 (lab.map distC) n k)) ∧ Hid (OwnC wr w1.heap.size (.slice (some ⟨g, 0, none⟩) n c) lab) ∧ Hid (Below w.heap.size w wr)) (fun i _ => n - (intOf i).toNat)
  case atStart => exact ⟨0, rfl, Nat.zero_le _, O2, OC, B2⟩
  case round =>
    clear O2 OC B2
    obtain ⟨k, rfl, hk, HO, HC, HB⟩ := hrel
    have hml : (lab.map distC).length = n := by rw [List.length_map, hlab]
    by_cases hlt : k < n
    · obtain ⟨a, ha⟩ := at_lt (l := lab) (k := k) (by omega)
      obtain ⟨r0, r1, -, -⟩ := OwnC.atn hlab HC.out ha
      have gk : (k : Int) < (n : Int) := by omega
      obtain ⟨w7, hw7⟩ : ∃ W, wr.alloc (.cells #[.int .i64 a.1, .int .i64 a.2] 58 (0, 0)) = W := ⟨_, rfl⟩
      have b7 : Below wr.heap.size wr w7 := by rw [← hw7]; exact (Below.refl _ _).alloc (Nat.le_refl _) _
      have c7 : w7.heap[wr.heap.size]? = some (.cells #[.int .i64 a.1, .int .i64 a.2] 58 (0, 0)) := by rw [← hw7]; exact heap_alloc_new _ _
      have hz := HB.out.size
      have HL := Lib.hid (lt_of_heap c7)
      have O7 := Lib.hid (HO.out.below b7)
      have C7 := Lib.hid (HC.out.below b7)
      have B7 : Hid (Below w.heap.size w w7) := HB.out.trans (b7.mono hz)
      have hwl : w.heap.size < wr.heap.size := by
        rcases HO.out.low with ⟨h', -⟩ | ⟨g'', c'', h', -, h4, -⟩
        · cases h'
        · have e := congrArg Value.ownBlock h'
          simp [Value.ownBlock] at e
          omega
      have hne : wr.heap.size ≠ w.heap.size := by omega
      have hpl := partG_len (z := (0 : Int)) hml hk
      obtain ⟨q0, f0⟩ := OwnI.atn hpl O7.out (partG_at hml hlt)
      have hma : (lab.map distC)[k]? = some (distC a) := by rw [List.getElem?_map, ha]; rfl
      have p0 : w7.cell? ⟨wr.heap.size, 0, none⟩ = some (.int .i64 a.1) := by rw [cell_of_row _ _ 0 _ _ _ c7]; rfl
      obtain ⟨w8, hw8⟩ : ∃ W, w7.setCell ⟨w.heap.size, k, none⟩ (.int .i64 a.1) = W := ⟨_, rfl⟩
      have c8 : w8.heap[wr.heap.size]? = some (.cells #[.int .i64 a.1, .int .i64 a.2] 58 (0, 0)) := by rw [← hw8, RowKit.Below.heap_setCell _ _ _ _ hne]; exact c7
      have p8 : w8.cell? ⟨wr.heap.size, 0, none⟩ = some (.int .i64 a.1) := by rw [cell_of_row _ _ 0 _ _ _ c8]; rfl
      have O8 : Hid (OwnI w8 w.heap.size (.slice (some ⟨w.heap.size, 0, none⟩) n n) ((partG 0 (lab.map distC) n k).set k a.1)) := by rw [← hw8]; exact OwnI.putn hpl O7.out k a.1
      have C8 : Hid (OwnC w8 w1.heap.size (.slice (some ⟨g, 0, none⟩) n c) lab) := by rw [← hw8]; exact ownsRow_setCell_below C7.out (by rw [Z1.out]; exact Nat.lt_succ_self _) _
      have B8 : Hid (Below w.heap.size w w8) := by rw [← hw8]; exact B7.out.setCell (Nat.le_refl _) _
      have PS := Lib.hid (partG_set (z := (0 : Int)) hml hma)
      have HPL := Lib.hid hpl
      clear ha b7 c7 c8 HO HC HB O7 C7 B7 hma hpl hne hwl hz HL hml
      by_cases hf : a.1 = 68719476736
      · have e1 := distC_far hf
        have hset : (((partG 0 (lab.map distC) n k).set k a.1).set k (-1)) = partG 0 (lab.map distC) n (k + 1) := by rw [List.set_set, ← PS.out, e1]
        have hpl8 : ((partG 0 (lab.map distC) n k).set k a.1).length = n := by rw [List.length_set]; exact HPL.out
        obtain ⟨q8, f8⟩ := OwnI.atn hpl8 O8.out (i := k) (x := a.1) (by rw [List.getElem?_set, if_pos rfl, if_pos (by rw [HPL.out]; exact hlt)])
        have O9 : Hid (OwnI (w8.setCell ⟨w.heap.size, k, none⟩ (.int .i64 (-1))) w.heap.size (.slice (some ⟨w.heap.size, 0, none⟩) n n) (partG 0 (lab.map distC) n (k + 1))) := by
          show OwnI _ _ _ _
          rw [← hset]
          exact OwnI.putn hpl8 O8.out k (-1)
        have C9 : Hid (OwnC (w8.setCell ⟨w.heap.size, k, none⟩ (.int .i64 (-1))) w1.heap.size (.slice (some ⟨g, 0, none⟩) n c) lab) := ownsRow_setCell_below C8.out (by rw [Z1.out]; exact Nat.lt_succ_self _) _
        have B9 : Hid (Below w.heap.size w (w8.setCell ⟨w.heap.size, k, none⟩ (.int .i64 (-1)))) := B8.out.setCell (Nat.le_refl _) _
        have t := beq_true hf
        clear O8 C8 B8 hset hpl8 e1 hf PS HPL
        go_wp2_with fail
        go_roundw
        case rel => exact ⟨k + 1, by go_num, by omega, O9, C9, B9⟩
        case measure => simp [intOf]; omega
      · have e1 := distC_near hf
        rw [e1] at PS
        have O9 : Hid (OwnI w8 w.heap.size (.slice (some ⟨w.heap.size, 0, none⟩) n n) (partG 0 (lab.map distC) n (k + 1))) := by
          show OwnI _ _ _ _
          rw [← PS.out]
          exact O8.out
        have t := beq_false hf
        clear O8 hf PS HPL e1
        go_wp2_with fail
        go_roundw
        case rel => exact ⟨k + 1, by go_num, by omega, O9, C8, B8⟩
        case measure => simp [intOf]; omega
    · have E : Hid (OwnI wr w.heap.size (.slice (some ⟨w.heap.size, 0, none⟩) n n) (distL n D b)) := by
        have := HO.out
        rw [show k = n by omega, partG_all hml, DX.out] at this
        exact this
      have d : decide (k < n) = false := by rw [decide_eq_false_iff_not]; exact hlt
      clear hlt HO hml
      go_wp2_with fail
      go_ret
      exact ⟨_, rfl, E.out, HB.out⟩
end Go.Proofs.Ytahbgafjljfndaa
