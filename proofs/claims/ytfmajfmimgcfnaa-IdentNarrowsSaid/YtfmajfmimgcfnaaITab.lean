/-
  Tables of identifiers: what a table is in memory, that it stays one; New, Find, Name and Len: what each call answers; nothing that existed before the call has changed behind it. Condition: at most 1000 strings of at most 2^20 bytes each.
-/
import Derived.Test.YtfmajfmimgcfnaaIUni
namespace Go.Proofs.Ytfmajfmimgcfnaa
open Go.RowKit

/-- The value is a table with these identifiers; its blocks are at base or above. -/
def Tab (w : World) (base : Nat) (t : Value) (ls : List (List UInt8)) : Prop := ∃ tb mb nv, t = .pointer (some ⟨tb, 0, none⟩) ∧ base ≤ tb ∧ tb < w.heap.size ∧ w.cell? ⟨tb, 0, none⟩ = some nv ∧ w.cell? ⟨tb, 1, none⟩ = some (.map (some mb)) ∧ OwnS w base nv ls ∧ base ≤ mb ∧ MapI w mb ls
theorem own_keep {w w' : World} {base : Nat} {e : TypeId} {v : Value} {n : Nat} {xs : List Value} (h : w.ownsRow base e 1 v n xs) (hk : ∀ k, base ≤ k → k < w.heap.size → w'.heap[k]? = w.heap[k]?) : w'.ownsRow base e 1 v n xs := by
  refine ⟨h.1, ?_⟩
  rcases h.2 with h0 | ⟨g, cap, cur, hv, hbg, hg, hr⟩
  · exact Or.inl h0
  · have hlt : g < w.heap.size := by
      rcases Nat.lt_or_ge g w.heap.size with h | h
      · exact h
      · rw [Array.getElem?_eq_none h] at hg; cases hg
    exact Or.inr ⟨g, cap, cur, hv, hbg, (hk g hbg hlt).trans hg, hr⟩
theorem own_down {w : World} {base base' : Nat} {e : TypeId} {v : Value} {n : Nat} {xs : List Value} (h : w.ownsRow base e 1 v n xs) (hb : base' ≤ base) : w.ownsRow base' e 1 v n xs := by
  refine ⟨h.1, ?_⟩
  rcases h.2 with h0 | ⟨g, cap, cur, hv, hbg, hr⟩
  · exact Or.inl h0
  · exact Or.inr ⟨g, cap, cur, hv, Nat.le_trans hb hbg, hr⟩
theorem MapI.keep {w w' : World} {b : Nat} {ls : List (List UInt8)} (h : MapI w b ls) (hk : w'.heap[b]? = w.heap[b]?) : MapI w' b ls := by
  obtain ⟨D, ⟨es, clock, hb, h1⟩, h2⟩ := h
  exact ⟨D, ⟨es, clock, hk.trans hb, h1⟩, h2⟩
theorem Tab.keep {w w' : World} {base : Nat} {t : Value} {ls : List (List UInt8)} (h : Tab w base t ls) (hs : w.heap.size ≤ w'.heap.size) (hk : ∀ k, base ≤ k → k < w.heap.size → w'.heap[k]? = w.heap[k]?) : Tab w' base t ls := by
  obtain ⟨tb, mb, nv, ht, h1, h2, h3, h4, h5, h6, h7⟩ := h
  have hb := hk tb h1 h2
  exact ⟨tb, mb, nv, ht, h1, Nat.lt_of_lt_of_le h2 hs, (World.cell?_of_block (w := w) hb).trans h3, (World.cell?_of_block (w := w) hb).trans h4, own_keep h5 hk, h6, h7.keep (hk mb h6 h7.lt)⟩
theorem Tab.below {w w' : World} {base : Nat} {t : Value} {ls : List (List UInt8)} (h : Tab w base t ls) (hb : Below w.heap.size w w') : Tab w' base t ls := h.keep hb.size fun k _ hk => hb.block k hk
theorem Tab.down {w : World} {base base' : Nat} {t : Value} {ls : List (List UInt8)} (h : Tab w base t ls) (hb : base' ≤ base) : Tab w base' t ls := by
  obtain ⟨tb, mb, nv, ht, h1, h2, h3, h4, h5, h6, h7⟩ := h
  exact ⟨tb, mb, nv, ht, Nat.le_trans hb h1, h2, h3, h4, own_down h5 hb, Nat.le_trans hb h6, h7⟩

/-! ### Find, Name, Len -/
theorem find_tab (w : World) (base : Nat) (t : Value) (ls : List (List UInt8)) (h : Tab w base t ls) (s : ByteArray) (hs : s.size ≤ 1099511627776) : Calls Try.prog 21 #[t, .string s] w fun e w' => e = .returned (.tuple #[.int .i64 ((idxOf ls s.data.toList : Nat) : Int), .bool (decide (s.data.toList ∈ ls))]) ∧ w = w' := by
  obtain ⟨tb, mb, nv, rfl, h1, h2, h3, h4, h5, h6, h7⟩ := h
  have lk := h7.look s _ rfl (by omega)
  generalize idxOf ls s.data.toList = i at lk ⊢
  generalize decide (s.data.toList ∈ ls) = b at lk ⊢
  clear h1 h2 h3 h5 h6 h7
  go_enter Try.func21, Try.ntmps21
  go_wp2_with fail
  go_ret2
  exact ⟨rfl, rfl⟩
theorem find_nil (s : ByteArray) (w : World) : Calls Try.prog 21 #[.pointer none, .string s] w fun e w' => e = .returned (.tuple #[.int .i64 0, .bool false]) ∧ w = w' := by
  go_enter Try.func21, Try.ntmps21
  go_wp2_with fail
  go_ret2
  exact ⟨rfl, rfl⟩
theorem len_tab (w : World) (base : Nat) (t : Value) (ls : List (List UInt8)) (h : Tab w base t ls) : Calls Try.prog 24 #[t] w fun e w' => e = .returned (.int .i64 ((ls.length : Nat) : Int)) ∧ w = w' := by
  obtain ⟨tb, mb, nv, rfl, h1, h2, h3, h4, h5, h6, h7⟩ := h
  obtain ⟨A, c, rfl⟩ := own_shape' h5
  clear h1 h2 h4 h5 h6 h7
  go_enter Try.func24, Try.ntmps24
  go_wp2_with fail
  go_ret
  exact ⟨rfl, rfl⟩
theorem len_nil (w : World) : Calls Try.prog 24 #[.pointer none] w fun e w' => e = .returned (.int .i64 0) ∧ w = w' := by
  go_enter Try.func24, Try.ntmps24
  go_wp2_with fail
  go_ret
  exact ⟨rfl, rfl⟩
theorem name_tab (w : World) (base : Nat) (t : Value) (ls : List (List UInt8)) (h : Tab w base t ls) (k : Nat) (x : List UInt8) (hx : ls[k]? = some x) : Calls Try.prog 23 #[t, .int .i64 (k : Int)] w fun e w' => e = .returned (.tuple #[.string (str x), .bool true]) ∧ w = w' := by
  have L := Lib.hid (len_tab w base t ls h)
  obtain ⟨tb, mb, nv, rfl, h1, h2, h3, h4, h5, h6, h7⟩ := h
  have hk := (List.getElem?_eq_some_iff.1 hx).1
  obtain ⟨A, c, rfl, hc, hcell⟩ := h5.lst
  obtain ⟨b, o, rfl, hbl, hcc⟩ := hcell (by omega)
  have m1 := hcc k _ (sts_at ls k x hx)
  have g0 : decide ((k : Int) < 0) = false := by simp
  have g1 : decide ((ls.length : Int) ≤ (k : Int)) = false := by simp; omega
  have g1' : decide (ls.length ≤ k) = false := decide_eq_false (by omega)
  generalize str x = s at m1 ⊢
  clear h1 h2 h4 h5 h6 h7 hcell hcc hx
  go_enter Try.func23, Try.ntmps23
  go_wp2_with fail
  refine (L.out).mono ?_
  rintro e w' ⟨rfl, rfl⟩
  go_wp2_with fail
  go_ret2
  exact ⟨rfl, rfl⟩
theorem name_no (w : World) (base : Nat) (t : Value) (ls : List (List UInt8)) (h : Tab w base t ls) (i : Int) (hi : i < 0 ∨ (ls.length : Int) ≤ i) : Calls Try.prog 23 #[t, .int .i64 i] w fun e w' => e = .returned (.tuple #[.string ByteArray.empty, .bool false]) ∧ w = w' := by
  have L := Lib.hid (len_tab w base t ls h)
  clear h
  by_cases h0 : i < 0
  · clear hi
    go_enter Try.func23, Try.ntmps23
    go_wp2_with fail
    go_ret2
    exact ⟨rfl, rfl⟩
  · have g0 : decide (i < 0) = false := decide_eq_false h0
    have g1 : (ls.length : Int) ≤ i := by omega
    clear hi h0
    go_enter Try.func23, Try.ntmps23
    go_wp2_with fail
    refine (L.out).mono ?_
    rintro e w' ⟨rfl, rfl⟩
    go_wp2_with fail
    go_ret2
    exact ⟨rfl, rfl⟩
theorem name_nil (i : Int) (w : World) : Calls Try.prog 23 #[.pointer none, .int .i64 i] w fun e w' => e = .returned (.tuple #[.string ByteArray.empty, .bool false]) ∧ w = w' := by
  by_cases h0 : i < 0
  · go_enter Try.func23, Try.ntmps23
    go_wp2_with fail
    go_ret2
    exact ⟨rfl, rfl⟩
  · have g0 : decide (i < 0) = false := decide_eq_false h0
    have g1 : (0 : Int) ≤ i := by omega
    clear h0
    go_enter Try.func23, Try.ntmps23
    go_wp2_with fail
    refine (len_nil _).mono ?_
    rintro e w' ⟨rfl, rfl⟩
    go_wp2_with fail
    go_ret2
    exact ⟨rfl, rfl⟩

/-! ### New -/
theorem clone_any (s : ByteArray) (hs : s.size ≤ 1099511627776) (w : World) : Calls Try.prog 40 #[.string s] w fun e w' => e = .returned (.string s) ∧ Below w.heap.size w w' := by
  have C := fun W => Try.stringslite_Clone s W (by omega)
  go_enter Try.func40, Try.ntmps40
  go_wp2_with fail
  refine (C _).mono ?_
  rintro e w1 ⟨rfl, b1⟩
  go_wp2_with fail
  go_ret
  exact ⟨rfl, b1⟩
theorem new_bad (v : Value) (l : List (List UInt8)) (hl : l.length ≤ 1000) (hs : ∀ (j : Nat) x, l[j]? = some x → x.length ≤ 1048576) (hg : ¬ Good5 l) (w : World) (h : Lst w v l) : Calls Try.prog 29 #[v] w fun e w' => e = .returned (.tuple #[.pointer none, .int .i64 ((uniqR l).1), .int .i64 ((uniqR l).2)]) ∧ Below w.heap.size w w' := by
  have U := Lib.hid (unique_any v l hl hs w h)
  unfold Good5 at hg
  generalize (uniqR l).1 = i at U ⊢
  generalize (uniqR l).2 = e at U hg ⊢
  have g : (e != 0) = true := bne_true hg
  clear hg h hs
  go_enter Try.func29, Try.ntmps29
  go_wp2_with fail
  refine (U.out).mono ?_
  rintro e w1 ⟨rfl, b1⟩
  go_wp2_with fail
  go_ret3
  exact ⟨rfl, b1⟩
/-- A table that grows: its map is block B, its two fields are block B + 1, its names lie above. -/
def Up (w : World) (B : Nat) (ls : List (List UInt8)) : Prop := ∃ nv, B + 2 ≤ w.heap.size ∧ w.cell? ⟨B + 1, 0, none⟩ = some nv ∧ w.frozen? ⟨B + 1, 0, none⟩ = false ∧ w.cell? ⟨B + 1, 1, none⟩ = some (.map (some B)) ∧ OwnS w (B + 2) nv ls ∧ MapI w B ls
theorem Up.start (w : World) : Up ((w.alloc (.map #[] 0)).alloc (.cells #[.slice none 0 0, .map (some w.heap.size)] 59 (0, 0))) w.heap.size [] := by
  have hz : ((w.alloc (.map #[] 0)).alloc (.cells #[.slice none 0 0, .map (some w.heap.size)] 59 (0, 0))).heap[w.heap.size + 1]? = some (.cells #[.slice none 0 0, .map (some w.heap.size)] 59 (0, 0)) := by
    have := heap_alloc_new (w.alloc (.map #[] 0)) (.cells #[.slice none 0 0, .map (some w.heap.size)] 59 (0, 0))
    rwa [show (w.alloc (.map #[] 0)).heap.size = w.heap.size + 1 by simp] at this
  refine ⟨.slice none 0 0, by simp, ?_, ?_, ?_, OwnS.nil _ _, (MapI.made w).below ((Below.refl _ _).alloc (Nat.le_refl _) _)⟩
  · rw [cell_of_row _ _ 0 _ _ _ hz]; rfl
  · unfold World.frozen?
    simp only [hz]
    rfl
  · rw [cell_of_row _ _ 1 _ _ _ hz]; rfl
theorem Up.below {w w' : World} {B : Nat} {ls : List (List UInt8)} (h : Up w B ls) (hb : Below w.heap.size w w') : Up w' B ls := by
  obtain ⟨nv, h1, h2, h3, h4, h5, h6⟩ := h
  exact ⟨nv, Nat.le_trans h1 hb.size, (hb.cell (by show B + 1 < _; omega)).trans h2, (hb.frozen (by show B + 1 < _; omega)).trans h3, (hb.cell (by show B + 1 < _; omega)).trans h4, own_below h5 hb, h6.below hb⟩
theorem Up.tab {w : World} {B base : Nat} {ls : List (List UInt8)} (h : Up w B ls) (hb : base ≤ B) : Tab w base (.pointer (some ⟨B + 1, 0, none⟩)) ls := by
  obtain ⟨nv, h1, h2, h3, h4, h5, h6⟩ := h
  exact ⟨B + 1, B, nv, rfl, by omega, by omega, h2, h4, own_down h5 (by omega), hb, h6⟩
theorem Up.step {w w' : World} {B k : Nat} {v : Value} {x : List UInt8} {l : List (List UInt8)} (h1 : B + 2 ≤ w.heap.size) (hc : ∃ u, w.cell? ⟨B + 1, 0, none⟩ = some u) (h3 : w.frozen? ⟨B + 1, 0, none⟩ = false) (h4 : w.cell? ⟨B + 1, 1, none⟩ = some (.map (some B))) (h5 : OwnS w (B + 2) v (l.take k ++ [x]))
    (hx : l[k]? = some x) (hm : MapI w' B (l.take k ++ [x])) (hg : (w.setCell ⟨B + 1, 0, none⟩ v).grownBy w' (some B)) : Up w' B (l.take (k + 1)) := by
  rw [take_at l k x hx]
  have hsz : (w.setCell ⟨B + 1, 0, none⟩ v).heap.size = w.heap.size := by simp [World.setCell]
  have hb : ∀ j, j ≠ B → j < w.heap.size → w'.heap[j]? = (w.setCell ⟨B + 1, 0, none⟩ v).heap[j]? := fun j hj hl => hg.block j (by rw [hsz]; exact hl) (by intro e; exact hj (by simpa using e))
  have ho : ∀ j, B + 2 ≤ j → j < w.heap.size → w'.heap[j]? = w.heap[j]? := fun j hj hl => (hb j (by omega) hl).trans (RowKit.Below.heap_setCell w ⟨B + 1, 0, none⟩ v j (by show j ≠ B + 1; omega))
  obtain ⟨u, hu⟩ := hc
  have hbb := hb (B + 1) (by omega) (by omega)
  refine ⟨v, Nat.le_trans h1 (by have := hg.size; rw [hsz] at this; exact this), ?_, ?_, ?_, own_keep h5 ho, hm⟩
  · exact (World.cell?_of_block (w := w.setCell ⟨B + 1, 0, none⟩ v) hbb).trans (World.cell?_setCell_same w _ v hu)
  · refine (World.frozen?_of_block (w := w.setCell ⟨B + 1, 0, none⟩ v) hbb).trans ?_
    rw [World.frozen?_setCell]
    exact h3
  · exact (World.cell?_of_block (w := w.setCell ⟨B + 1, 0, none⟩ v) hbb).trans ((World.cell?_setCell_other w _ _ v (by intro e; cases e)).trans h4)
theorem uniq_new {l : List (List UInt8)} (hg : Good5 l) {k : Nat} {x : List UInt8} (h : l[k]? = some x) : x ∉ l.take k := by
  intro hm
  obtain ⟨j, hj⟩ := List.mem_iff_getElem?.1 hm
  rw [List.getElem?_take] at hj
  split at hj
  · next hlt => have := good_diff hg hj h; omega
  · cases hj
set_option maxHeartbeats 4000000 in
theorem new_good (v : Value) (l : List (List UInt8)) (hl : l.length ≤ 1000) (hs : ∀ (j : Nat) x, l[j]? = some x → x.length ≤ 1048576) (hg : Good5 l) (w : World) (h : Lst w v l) :
    Calls Try.prog 29 #[v] w fun e w' => ∃ t, e = .returned (.tuple #[t, .int .i64 0, .int .i64 0]) ∧ Tab w' w.heap.size t l ∧ Below w.heap.size w w' := by
  have U := Lib.hid (unique_any v l hl hs w h)
  have hg0 := hg
  unfold Good5 at hg0
  rw [hg0] at U
  generalize (uniqR l).1 = i at U
  obtain ⟨A, c, rfl, _, hx⟩ := h
  have HX := Lib.hid hx
  have HS := Lib.hid hs
  have HG := Lib.hid hg
  have hmm := @run_makeMap Try.prog
  clear hx hs hg hg0
  go_enter Try.func29, Try.ntmps29
  go_wp2_with fail
  refine (U.out).mono ?_
  rintro e w1 ⟨rfl, b1⟩
  clear U
  have B1 := Lib.hid b1
  clear b1
  go_wp2_with fail
  go_loopw [25] (fun i wr => ∃ k : Nat, i = .int .i64 k ∧ k ≤ l.length ∧ Hid (Up wr w1.heap.size (l.take k)) ∧ Hid (Below w1.heap.size w1 wr)) (fun i _ => l.length - (intOf i).toNat)
  case atStart => exact ⟨0, rfl, Nat.zero_le _, Lib.hid (Up.start w1), Lib.hid (((Below.refl _ _).alloc (Nat.le_refl _) _).alloc (by simp) _)⟩
  case round =>
    clear hmm
    obtain ⟨k, rfl, hk, hu, hb⟩ := hrel
    by_cases hlt : k < l.length
    · obtain ⟨b, o, rfl, hbl, hcell⟩ := HX.out (by omega)
      obtain ⟨x, hx⟩ := at_lt hlt
      have hc := ((B1.out.trans (hb.out.mono B1.out.size)).cell (p := ⟨b, o + k, none⟩) hbl).trans (hcell k _ (sts_at l k x hx))
      have hxl := HS.out k x hx
      obtain ⟨s, hs, hsz, hst⟩ := as_str x
      rw [hst] at hc
      have gk : (k : Int) < (l.length : Int) := by omega
      have C := Lib.hid (fun W => clone_any s (by omega) W)
      have N := Lib.hid (uniq_new HG.out hx)
      have KX := Lib.hid hx
      have KS := Lib.hid hs
      have KT := Lib.hid hst
      have hsl : s.size ≤ 4611686018427387904 := by omega
      clear hcell HX HS hs hst hx hxl hsz HG
      go_wp2_with fail
      refine (C.out _).mono ?_
      rintro e w2 ⟨rfl, b2⟩
      have u2 := hu.out.below b2
      have hb2 : Hid (Below w1.heap.size w1 w2) := hb.out.trans (b2.mono hb.out.size)
      clear b2 hu hb
      obtain ⟨nv, q1, q2, q3, q4, q5, q6⟩ := u2
      have hlk : (l.take k).length = k := by rw [List.length_take]; omega
      obtain ⟨A2, c2, rfl⟩ := own_shape' q5
      rw [hlk] at q2 q5
      have Q5 := Lib.hid q5
      have Q6 := Lib.hid q6
      clear q5 q6
      have hlx : (l.take k ++ [x]).length = k + 1 := by rw [List.length_append, hlk]; rfl
      have HLX := Lib.hid hlx
      have HLK := Lib.hid hlk
      have Q1 := Lib.hid q1
      have Q2 := Lib.hid q2
      have Q3 := Lib.hid q3
      have Q4 := Lib.hid q4
      clear hlx hlk q3
      go_wp2_with (first
        | (at_builtin; refine app_one _ rfl (.tmp 36) (.tmp 38) rfl (w1.heap.size + 2) _ (l.take k) x rfl (World.ownsRow.alloc Q5.out _) w2.heap.size _ (heap_alloc_new _ _) (by rw [KT.out]) rfl (by have := Q1.out; simp; omega) (by rw [HLK.out]; omega) ?_
           intro v3 w3 own3 b3
           obtain ⟨A3, c3, hv3⟩ := own_shape' own3
           rw [HLX.out] at hv3
           subst hv3
           have O3 := Lib.hid own3
           have bb := ((Below.refl (w1.heap.size + 2) w2).alloc Q1.out _).trans b3
           have BB := Lib.hid bb
           clear q1 q2 q4 own3
           have m0 := (bb.cell (p := ⟨w1.heap.size + 1, 0, none⟩) (by show w1.heap.size + 1 < _; omega)).trans Q2.out
           have f0 := (bb.frozen (p := ⟨w1.heap.size + 1, 0, none⟩) (by show w1.heap.size + 1 < _; omega)).trans Q3.out
           have m1 := (bb.cell (p := ⟨w1.heap.size + 1, 1, none⟩) (by show w1.heap.size + 1 < _; omega)).trans Q4.out
           have e1 := (World.cell?_setCell_other w3 ⟨w1.heap.size + 1, 0, none⟩ ⟨w1.heap.size + 1, 1, none⟩ (.slice A3 (k + 1) c3) (by intro e; cases e)).trans m1
           have M4 : Hid (MapI (w3.setCell ⟨w1.heap.size + 1, 0, none⟩ (.slice A3 (k + 1) c3)) w1.heap.size (l.take k)) := (Q6.out.keep (bb.block _ (by omega))).setCell (by show w1.heap.size ≠ w1.heap.size + 1; omega) _
           clear b3 bb Q2 Q4 Q5 Q6)
        | (at_mapUpdate; go_loud (refine put_int _ rfl _ _ _ rfl w1.heap.size (l.take k) rfl M4.out s x KS.out hsl rfl k HLK.out.symm rfl N.out (by rw [HLK.out]; omega) ?_)
           intro w5 m5 g5
           have M5 := Lib.hid m5
           have G5 := Lib.hid g5
           clear m5 g5))
      have UP : Hid (Up w5 w1.heap.size (l.take (k + 1))) := Up.step (by have := BB.out.size; have := Q1.out; omega) ⟨_, m0⟩ f0 m1 O3.out KX.out M5.out G5.out
      have BN : Hid (Below w1.heap.size w1 w5) := ((hb2.out.trans (BB.out.mono (by omega))).setCell (by show w1.heap.size ≤ w1.heap.size + 1; omega) _).grown G5.out (by have := BB.out.size; have := Q1.out; simp [World.setCell]; omega) (fun j hj => by cases hj; exact Nat.le_refl _)
      clear m0 f0 m1 e1 O3 BB G5 M5 hb2 M4 Q3 HLX N KX KS KT C
      go_wp2_with fail
      go_roundw
      case rel => exact ⟨k + 1, by go_num, by omega, UP, BN⟩
      case measure => simp [intOf]; omega
    · have d : decide (k < l.length) = false := by rw [decide_eq_false_iff_not]; exact hlt
      have T : Hid (Tab wr w.heap.size (.pointer (some ⟨w1.heap.size + 1, 0, none⟩)) l) := by
        have := hu.out
        rw [List.take_of_length_le (by omega)] at this
        exact this.tab B1.out.size
      have B := Lib.hid (B1.out.trans (hb.out.mono B1.out.size))
      clear hu hb hlt HX HS HG
      go_wp2_with fail
      go_ret3
      exact ⟨_, rfl, T.out, B.out⟩
end Go.Proofs.Ytfmajfmimgcfnaa
