/-
  slices.Concat of two lists of spans, and ends: all ends of two lists, ascending. Condition: lists of at most 100000 spans.
-/
import Derived.Test.YtmlmdggfcdakhaaVFun
namespace Go.Proofs.Ytmlmdggfcdakhaa
open Go.RowKit Go.Sort

theorem grow_any (n : Nat) (hn : n ≤ 1000000) (w : World) :
    Calls Try.prog 62 #[.slice none 0 0, .int .i64 (n : Int)] w fun e w' => ∃ v', e = .returned v' ∧ OwnV w' w.heap.size v' [] ∧ RowKit.Below w.heap.size w w' := by
  rcases Nat.eq_zero_or_pos n with rfl | h
  · refine (Try.slices_Grow_spans_room none 0 0 0 w (Nat.le_refl _) (by decide) (by decide) (Nat.le_refl _)).mono ?_
    rintro e w' ⟨rfl, rfl⟩
    exact ⟨_, rfl, OwnG.nil _ _ _ _ _, RowKit.Below.refl _ _⟩
  · obtain ⟨i, hi, hz, hsz, hby⟩ := info_parts info_sp
    refine (Try.slices_Grow_spans i _ hi hz (by omega) none 0 0 n [] w (Nat.le_refl _) (by omega) (by rw [hby]; omega) (by omega) (by simp) (fun _ => rfl) (fun a ha => by cases ha)).mono ?_
    rintro e w' ⟨rfl, rfl⟩
    have h1 := grownCap_ge w (0 + n) 0 27
    have h2 := grownCap_le_maxLen w (0 + n) 0 27 (by unfold maxLen; omega)
    generalize grownCap w (0 + n) 0 27 = G at h1 h2 ⊢
    refine ⟨_, rfl, ⟨rfl, .inr ⟨w.heap.size, G, _, rfl, Nat.le_refl _, heap_alloc_new _ _, by simp, h2, ?_, ?_⟩⟩, ((RowKit.Below.refl _ _).drew).alloc (Nat.le_refl _) _⟩
    · simp [size_zeroCells, Value.cells]
      omega
    · simp [fl]
set_option maxRecDepth 100000 in
set_option maxHeartbeats 4000000 in
theorem concat_any (va vb : Value) (a b : List Sp) (ha : a.length ≤ 100000) (hb : b.length ≤ 100000) (bs : Nat) (w : World) (h0 : w.cell? ⟨bs, 0, none⟩ = some va) (h1 : w.cell? ⟨bs, 1, none⟩ = some vb) (hA : LstV w va a) (hB : LstV w vb b) :
    Calls Try.prog 50 #[.slice (some ⟨bs, 0, none⟩) 2 2] w fun e w' => ∃ v', e = .returned v' ∧ LstV w' v' (a ++ b) ∧ RowKit.Below w.heap.size w w' := by
  have hh := hA
  obtain ⟨A, ca, rfl, -⟩ := hh
  have hh := hB
  obtain ⟨B, cb, rfl, -⟩ := hh
  have HA := Lib.hid hA
  have HB := Lib.hid hB
  have G := Lib.hid (grow_any (a.length + b.length) (by omega) w)
  rw [show ((a.length + b.length : Nat) : Int) = (a.length : Int) + (b.length : Int) by omega] at G
  have hbs := World.block_lt_of_cell? _ _ h0
  have za : decide ((a.length : Int) < 0) = false := decide_eq_false (by omega)
  have zab : decide ((a.length : Int) + (b.length : Int) < 0) = false := decide_eq_false (by omega)
  have wab : IntKind.i64.wrap ((a.length : Int) + (b.length : Int)) = (a.length : Int) + (b.length : Int) := IntWalk.i64_in _ (by omega)
  clear hA hB
  go_enter Try.func50, Try.ntmps50
  go_wp2_with fail
  go_loopw [3, 11] (fun s i wr => wr = w ∧ (i = .int .i64 0 ∧ s = .int .i64 0 ∨ i = .int .i64 1 ∧ s = .int .i64 (a.length : Int) ∨ i = .int .i64 2 ∧ s = .int .i64 ((a.length : Int) + (b.length : Int)))) (fun _ i _ => 2 - (intOf i).toNat)
  case atStart => exact ⟨rfl, .inl ⟨rfl, rfl⟩⟩
  case round =>
    obtain ⟨hw, ⟨rfl, rfl⟩ | ⟨rfl, rfl⟩ | ⟨rfl, rfl⟩⟩ := hrel
    · subst hw
      clear G zab wab
      go_wp2_with fail
      go_roundw
      case rel => exact ⟨trivial, .inr (.inl ⟨rfl, rfl⟩)⟩
      case measure => simp [intOf]
    · subst hw
      clear G
      go_wp2_with fail
      go_roundw
      case rel => exact ⟨trivial, .inr (.inr ⟨rfl, rfl⟩)⟩
      case measure => simp [intOf]
    · have hw' := hw.symm
      subst hw'
      clear hw
      go_wp2_with fail
      refine G.out.mono ?_
      rintro e w1 ⟨v1, rfl, o1, b1⟩
      have O1 := Lib.hid o1
      have B1 := Lib.hid b1
      obtain ⟨A1, c1, rfl⟩ := own_nil_shape o1
      clear G o1 b1
      go_wp2_with fail
      go_loopw [6, 27] (fun u i w2 => Hid (RowKit.Below w.heap.size w w2) ∧ (i = .int .i64 0 ∧ Hid (OwnV w2 w.heap.size u []) ∨ i = .int .i64 1 ∧ Hid (OwnV w2 w.heap.size u a) ∨ i = .int .i64 2 ∧ Hid (OwnV w2 w.heap.size u (a ++ b)))) (fun _ i _ => 2 - (intOf i).toNat)
      case atStart => exact ⟨B1, .inl ⟨rfl, O1⟩⟩
      case round =>
        obtain ⟨HW, ⟨rfl, HO⟩ | ⟨rfl, HO⟩ | ⟨rfl, HO⟩⟩ := hrel
        · have q := (HW.out.cell (p := ⟨bs, 0, none⟩) hbs).trans h0
          have LM := Lib.hid (HA.out.below HW.out)
          have hz := HW.out.size
          clear h0 h1
          go_wp2_with (at_builtin; refine appG_list sc_len sc_one (by decide) Try.underlying29 info_sp rfl (by decide) _ rfl (.tmp 31) (.tmp 32) rfl w.heap.size _ [] a rfl HO.out _ rfl LM.out hz (by first | omega | (simp; omega)) ?_; intro v3 w3 own3 b3 gr3 wh3; have O3 := Lib.hid own3; have B3 := Lib.hid (HW.out.trans b3); clear own3 b3 gr3 wh3)
          clear HO HW LM q
          go_wp2_with fail
          go_roundw
          case rel => exact ⟨B3, .inr (.inl ⟨rfl, O3⟩)⟩
          case measure => simp [intOf]
        · have q := (HW.out.cell (p := ⟨bs, 1, none⟩) hbs).trans h1
          have LM := Lib.hid (HB.out.below HW.out)
          have hz := HW.out.size
          clear h0 h1
          go_wp2_with (at_builtin; refine appG_list sc_len sc_one (by decide) Try.underlying29 info_sp rfl (by decide) _ rfl (.tmp 31) (.tmp 32) rfl w.heap.size _ a b rfl HO.out _ rfl LM.out hz (by first | omega | (simp; omega)) ?_; intro v3 w3 own3 b3 gr3 wh3; have O3 := Lib.hid own3; have B3 := Lib.hid (HW.out.trans b3); clear own3 b3 gr3 wh3)
          clear HO HW LM q
          go_wp2_with fail
          go_roundw
          case rel => exact ⟨B3, .inr (.inr ⟨rfl, O3⟩)⟩
          case measure => simp [intOf]
        · clear h0 h1
          go_wp2_with fail
          go_ret
          exact ⟨_, rfl, OwnG.lst HO.out, HW.out⟩
/-! ### A sort of ints -/
theorem heap_sortI {w : World} {g n : Nat} {os : Array Obj} {cur : Array Value} {e : TypeId} {fr : Nat × Nat} (d : Array Int) (hb : w.heap[g]? = some (.cells cur e fr)) :
    (grow (putRow (Value.int .i64) (Sort.ahead w n) g 0 d) os).heap[g]? = some (.cells (putCells (Value.int .i64) 0 d cur) e fr) := by
  have hg : g < w.heap.size := (Array.getElem?_eq_some_iff.1 hb).1
  rw [heap_grow_old _ _ (by simpa [putRow, mapBlock, Sort.ahead] using hg)]
  simp [putRow, mapBlock, Sort.ahead, Array.getElem?_modify, hb, onCells]
theorem below_sortI {w : World} {g n base : Nat} {os : Array Obj} (d : Array Int) (hb : base ≤ g) (hl : base ≤ w.heap.size) : RowKit.Below base w (grow (putRow (Value.int .i64) (Sort.ahead w n) g 0 d) os) := by
  refine ⟨rfl, rfl, rfl, by simp [putRow, mapBlock, Sort.ahead], fun j hj => ?_⟩
  rw [heap_grow_old _ _ (by simp [putRow, mapBlock, Sort.ahead]; omega)]
  have : g ≠ j := by omega
  simp [putRow, mapBlock, Sort.ahead, Array.getElem?_modify, this]
theorem holdsI_own {w : World} {g : Nat} {T : TypeId} {cur : Array Value} {l : List Int} (hb : w.heap[g]? = some (.cells cur T (0, 0))) (ht : cur.toList.take l.length = ints l) : Holds (Value.int .i64) w g 0 l.toArray := by
  intro j hj
  have hj' : j < l.length := by simpa using hj
  refine ⟨?_, by simp [World.frozen?, hb]⟩
  have h1 : (cur.toList.take l.length)[j]? = (ints l)[j]? := by rw [ht]
  rw [List.getElem?_take_of_lt hj'] at h1
  rw [cell_of_row w g (0 + j) cur _ _ hb, Nat.zero_add, ← Array.getElem?_toList, h1]
  simp [hj']
theorem lst_sortedI {w : World} {g cap m : Nat} {T : TypeId} {os : Array Obj} {cur : Array Value} (l : List Int) (hb : w.heap[g]? = some (.cells cur T (0, 0))) (hl : l.length ≤ cur.size) (hc : l.length ≤ cap) :
    LstI (grow (putRow (Value.int .i64) (Sort.ahead w m) g 0 l.toArray) os) (.slice (some ⟨g, 0, none⟩) l.length cap) l := by
  have hh := heap_sortI (n := m) (os := os) l.toArray hb
  refine ⟨some ⟨g, 0, none⟩, cap, rfl, hc, fun h => absurd h (by simp), fun _ => ⟨g, 0, rfl, (Array.getElem?_eq_some_iff.1 hh).1, fun j x hj => ?_⟩⟩
  rw [Nat.zero_add, cell_of_row _ g j _ _ _ hh, ← hj]
  have hjl : j < l.length := by
    have := (List.getElem?_eq_some_iff.1 hj).1
    rw [List.length_map] at this
    exact this
  simp [putCells, hjl, show j < cur.size by omega]
def srtI (l : List Int) : List Int := l.mergeSort fun x y => decide (x ≤ y)
theorem srtI_nil : srtI [] = [] := by simp [srtI]
theorem lsti_at (w : World) (k : Nat) (hk : w.heap.size = k) (cs : Array Value) (ls : List Int) (h : cs.toList = ints ls) (n : Nat) (hn : ls.length = n) : LstI (w.alloc (.cells cs 3 (0, 0))) (.slice (some ⟨k, 0, none⟩) n n) ls := by
  subst hk
  exact lsti_lit w cs ls h n hn
theorem srtI_mem (l : List Int) (z : Int) : z ∈ srtI l ↔ z ∈ l := (List.mergeSort_perm l _).mem_iff
theorem srtI_len (l : List Int) : (srtI l).length = l.length := (List.mergeSort_perm l _).length_eq
theorem srtI_up (l : List Int) : (srtI l).Pairwise (· ≤ ·) := by
  refine List.Pairwise.imp ?_ (List.pairwise_mergeSort (le := fun x y : Int => decide (x ≤ y)) (fun x y z h1 h2 => ?_) (fun x y => ?_) l)
  · intro x y h
    simpa using h
  · simp at *; omega
  · simp; omega
theorem endsS_next {l : List Sp} {k : Nat} {s : Sp} (h : l[k]? = some s) : endsS (l.take (k + 1)) = endsS (l.take k) ++ [s.1, s.2] := by
  rw [take_at l k s h, endsS_app]
  rfl
set_option maxRecDepth 100000 in
set_option maxHeartbeats 4000000 in
theorem iends_any (va vb : Value) (a b : List Sp) (ha : a.length ≤ 100000) (hb : b.length ≤ 100000) (w : World) (hA : LstV w va a) (hB : LstV w vb b) :
    Calls Try.prog 46 #[va, vb] w fun e w' => ∃ v', e = .returned v' ∧ LstI w' v' (srtI (endsS (a ++ b))) ∧ RowKit.Below w.heap.size w w' := by
  have hh := hA
  obtain ⟨A, ca, rfl, -⟩ := hh
  have hh := hB
  obtain ⟨B, cb, rfl, -⟩ := hh
  have ba : RowKit.Below w.heap.size w (w.alloc (.cells #[.slice A a.length ca, .slice B b.length cb] 29 (0, 0))) := (RowKit.Below.refl _ _).alloc (Nat.le_refl _) _
  have C := Lib.hid (concat_any _ _ a b ha hb w.heap.size _ (by rw [cell_of_row _ _ 0 _ _ _ (heap_alloc_new w (.cells #[.slice A a.length ca, .slice B b.length cb] 29 (0, 0)))]; rfl) (by rw [cell_of_row _ _ 1 _ _ _ (heap_alloc_new w (.cells #[.slice A a.length ca, .slice B b.length cb] 29 (0, 0)))]; rfl) (hA.below ba) (hB.below ba))
  have BA := Lib.hid ba
  have hrl : (a ++ b).length ≤ 200000 := by rw [List.length_append]; omega
  generalize a ++ b = r at C hrl ⊢
  clear hA hB ba
  go_enter Try.func46, Try.ntmps46
  go_wp2_with fail
  refine C.out.mono ?_
  rintro er w1 ⟨vr, rfl, l1, b1⟩
  have hh := l1
  obtain ⟨R, cr, rfl, -⟩ := hh
  have L1 := Lib.hid l1
  have B1 := Lib.hid (BA.out.trans (b1.mono BA.out.size))
  clear l1 b1 C BA
  go_wp2_with fail
  go_loopw [5, 13] (fun u i wr => ∃ k : Nat, i = .int .i64 (k : Int) ∧ k ≤ r.length ∧ Hid (OwnI wr w1.heap.size u (endsS (r.take k))) ∧ Hid (RowKit.Below w1.heap.size w1 wr)) (fun _ i _ => r.length - (intOf i).toNat)
  case atStart => exact ⟨0, rfl, Nat.zero_le _, Lib.hid (OwnI.nil _ _), Lib.hid (RowKit.Below.refl _ _)⟩
  case round =>
    obtain ⟨k, rfl, hk, HO, HB⟩ := hrel
    by_cases hlt : k < r.length
    · obtain ⟨s, hs⟩ := at_lt hlt
      obtain ⟨p, o, rfl, hp, m0, m1⟩ := sp_at (L1.out.below HB.out) hs
      have gk : (k : Int) < (r.length : Int) := by omega
      have N := Lib.hid (endsS_next hs)
      have hz := HB.out.size
      have hel : (endsS (r.take k)).length ≤ 2 * k := by rw [endsS_len, List.length_take]; omega
      generalize endsS (r.take k) = acc at HO N hel
      obtain ⟨x, y⟩ := s
      clear hs
      go_wp2_with (at_builtin; refine app_ints _ rfl (.tmp 17) (.tmp 22) rfl w1.heap.size _ acc [x, y] rfl (World.ownsRow.alloc (World.ownsRow.alloc HO.out _) _) (.slice (some ⟨wr.heap.size + 1, 0, none⟩) 2 2) rfl (lsti_at _ (wr.heap.size + 1) (by simp) #[.int .i64 x, .int .i64 y] [x, y] rfl 2 rfl) (by simp; omega) (by simp; omega) ?_; intro v3 w3 own3 b3; have O3 := Lib.hid own3; have B3 := Lib.hid (((HB.out.alloc hz _).alloc (by simp; omega) _).trans b3); clear own3 b3)
      have O4 : Hid (OwnI w3 w1.heap.size v3 (endsS (r.take (k + 1)))) := by
        show OwnI _ _ _ _
        rw [N.out]
        exact O3.out
      clear HO HB N O3 m0 m1
      go_wp2_with fail
      go_roundw
      case rel => exact ⟨k + 1, by go_num, by omega, O4, B3⟩
      case measure => simp [intOf]; omega
    · have d : decide (k < r.length) = false := by rw [decide_eq_false_iff_not]; exact hlt
      have O : Hid (OwnI wr w1.heap.size u5 (endsS r)) := by
        have := HO.out
        rw [List.take_of_length_le (by omega)] at this
        exact this
      have BB : Hid (RowKit.Below w.heap.size w wr) := B1.out.trans (HB.out.mono B1.out.size)
      have hel := endsS_len r
      generalize hE : endsS r = E at O hel
      have VE := Lib.hid hE
      clear hE
      have hb1 := B1.out.size
      have hb2 := HB.out.size
      clear hlt HO HB
      rcases O.out.2 with ⟨rfl, h0⟩ | ⟨g, cap, cur, rfl, hbg, hg, hn, hm, hcs, ht⟩
      · have S0 := Lib.hid (fun W => Try.slices_Sort_int_none none 0 W)
        have V0 : Hid (E = []) := List.length_eq_zero_iff.1 h0
        clear O hel h0
        go_wp2_with fail
        refine (S0.out _).mono ?_
        rintro e w' ⟨rfl, rfl⟩
        go_wp2_with fail
        go_ret
        exact ⟨_, rfl, by rw [VE.out, V0.out, srtI_nil]; exact LstI.nil _, BB.out⟩
      · by_cases hz : E.length = 0
        · have S0 := Lib.hid (fun W => Try.slices_Sort_int_none (some ⟨g, 0, none⟩) cap W)
          have V0 : Hid (E = []) := List.length_eq_zero_iff.1 hz
          rw [hz]
          clear O hel hz hg hn hm hcs ht
          go_wp2_with fail
          refine (S0.out _).mono ?_
          rintro e w' ⟨rfl, rfl⟩
          go_wp2_with fail
          go_ret
          exact ⟨_, rfl, by rw [VE.out, V0.out, srtI_nil]; exact ⟨_, _, rfl, Nat.zero_le _, fun h => absurd h (by simp), fun h => absurd h (Nat.lt_irrefl _)⟩, BB.out⟩
        · have hgl : g < wr.heap.size := (Array.getElem?_eq_some_iff.1 hg).1
          rw [Nat.mul_one] at ht
          have S1 := Try.slices_Sort_int g 0 cap E wr (holdsI_own hg ht) hgl (by omega)
          have FIN : Hid (∀ (n : Nat) (os : Array Obj), LstI (grow (putRow (Value.int .i64) (Sort.ahead wr n) g 0 (srtI E).toArray) os) (.slice (some ⟨g, 0, none⟩) E.length cap) (srtI E) ∧ RowKit.Below w.heap.size w (grow (putRow (Value.int .i64) (Sort.ahead wr n) g 0 (srtI E).toArray) os)) := by
            intro n os
            have q := lst_sortedI (m := n) (os := os) (cap := cap) (srtI E) hg (by rw [srtI_len]; omega) (by rw [srtI_len]; exact hn)
            rw [srtI_len] at q
            exact ⟨q, BB.out.trans (below_sortI _ (by omega) (by omega))⟩
          have SS := Lib.hid S1
          clear O hel hg hn hm hcs ht S1 hz hgl
          go_wp2_with fail
          refine SS.out.mono ?_
          rintro e w2 ⟨rfl, n, os, hw2⟩
          have K := Lib.hid (FIN.out n os)
          rw [← show w2 = grow (putRow (Value.int .i64) (Sort.ahead wr n) g 0 (srtI E).toArray) os from hw2] at K
          clear hw2 FIN SS
          go_wp2_with fail
          go_ret
          exact ⟨_, rfl, by rw [VE.out]; exact K.out.1, K.out.2⟩
end Go.Proofs.Ytmlmdggfcdakhaa
