/-
  sortedValid: the valid spans of a list, in order of their beginnings. Condition: lists of at most 1000000 spans.
-/
import Derived.Test.YtmlmdggfcdakhaaVSt
import Derived.Test.YtmlmdggfcdakhaaSameI
import Derived.Test.YtmlmdggfcdakhaaShelf
namespace Go.Proofs.Ytmlmdggfcdakhaa
open Go.RowKit Go.Sort

/-! ### A sort of structs: the cells, the world behind it -/
section
variable {α : Type} [Inhabited α] {enc : α → List Value} {k : Nat}
theorem flatK_fl (hk : ∀ a, (enc a).length = k) (l : List α) : (flatK enc k l.toArray).toList = fl enc l := by
  apply List.ext_getElem?
  intro t
  by_cases ht : t < l.length * k
  · have k0 : 0 < k := by
      rcases Nat.eq_zero_or_pos k with h | h
      · subst h; simp at ht
      · exact h
    have hi : t / k < l.length := Nat.div_lt_of_lt_mul (by rw [Nat.mul_comm]; exact ht)
    obtain ⟨a, ha⟩ := (⟨l[t / k], List.getElem?_eq_getElem hi⟩ : ∃ a, l[t / k]? = some a)
    have h1 := fl_at hk ha (t % k) (Nat.mod_lt _ k0)
    rw [show t / k * k + t % k = t by rw [Nat.mul_comm]; exact Nat.div_add_mod t k] at h1
    rw [h1]
    have h2 := get_flatK enc k l.toArray t (by simpa using ht)
    have h3 : t < (flatK enc k l.toArray).size := by simpa using ht
    rw [getElem!_pos _ t h3] at h2
    rw [Array.getElem?_toList, Array.getElem?_eq_getElem h3, h2]
    have h4 : l.toArray[t / k]! = a := by
      rw [getElem!_pos _ _ (by simpa using hi)]
      have := List.getElem?_eq_getElem hi
      rw [ha] at this
      simp at this
      simp [this]
    rw [h4]
    have hm : t % k < (enc a).length := by rw [hk]; exact Nat.mod_lt _ k0
    rw [getElem!_pos (enc a) (t % k) hm, List.getElem?_eq_getElem hm]
  · rw [List.getElem?_eq_none (by simp; omega), List.getElem?_eq_none (by rw [fl_len hk]; omega)]
theorem heap_sortK {w : World} {g n : Nat} {os : Array Obj} {cur : Array Value} {e : TypeId} {fr : Nat × Nat} (d : Array α) (hb : w.heap[g]? = some (.cells cur e fr)) :
    (sortWorldK enc k w g 0 n d os).heap[g]? = some (.cells (putCells id 0 (flatK enc k d) cur) e fr) := by
  have hg : g < w.heap.size := (Array.getElem?_eq_some_iff.1 hb).1
  unfold sortWorldK
  rw [heap_grow_old _ _ (by simpa [putRowK, putRow, mapBlock, Sort.ahead] using hg)]
  simp [putRowK, putRow, mapBlock, Sort.ahead, Array.getElem?_modify, hb, onCells]
theorem below_sortK {w : World} {g n base : Nat} {os : Array Obj} (d : Array α) (hb : base ≤ g) (hl : base ≤ w.heap.size) : Below base w (sortWorldK enc k w g 0 n d os) := by
  refine ⟨rfl, rfl, rfl, by simp [sortWorldK, putRowK, putRow, mapBlock, Sort.ahead], fun j hj => ?_⟩
  unfold sortWorldK
  rw [heap_grow_old _ _ (by simp [putRowK, putRow, mapBlock, Sort.ahead]; omega)]
  have : g ≠ j := by omega
  simp [putRowK, putRow, mapBlock, Sort.ahead, Array.getElem?_modify, this]
theorem holdsK_own (hk : ∀ a, (enc a).length = k) {w : World} {g : Nat} {T : TypeId} {cur : Array Value} {l : List α} (hb : w.heap[g]? = some (.cells cur T (0, 0))) (ht : cur.toList.take (l.length * k) = fl enc l) : HoldsK enc k w g 0 l.toArray := by
  intro j hj
  have hj' : j < l.length * k := by simpa using hj
  refine ⟨?_, by simp [World.frozen?, hb]⟩
  have h1 : (cur.toList.take (l.length * k))[j]? = (fl enc l)[j]? := by rw [ht]
  rw [List.getElem?_take_of_lt hj', ← flatK_fl hk, Array.getElem?_toList, Array.getElem?_toList, Array.getElem?_eq_getElem hj] at h1
  rw [cell_of_row w g (0 + j) cur _ _ hb, Nat.zero_add, h1, getElem!_pos _ j hj]
  rfl
theorem lst_sortedK (hk : ∀ a, (enc a).length = k) {w : World} {g cap m : Nat} {T : TypeId} {os : Array Obj} {cur : Array Value} (l : List α) (hb : w.heap[g]? = some (.cells cur T (0, 0))) (hl : l.length * k ≤ cur.size) (hc : l.length ≤ cap) :
    LstG enc (sortWorldK enc k w g 0 m l.toArray os) (.slice (some ⟨g, 0, none⟩) l.length cap) l := by
  have hh := heap_sortK (enc := enc) (k := k) (n := m) (os := os) l.toArray hb
  refine ⟨some ⟨g, 0, none⟩, cap, rfl, hc, fun h => absurd h (by simp), fun _ => ⟨g, 0, rfl, (Array.getElem?_eq_some_iff.1 hh).1, fun j x hj => ?_⟩⟩
  rw [Nat.zero_add, cell_of_row _ g j _ _ _ hh, ← hj]
  have hjl : j < l.length * k := by
    have := (List.getElem?_eq_some_iff.1 hj).1
    rw [fl_len hk] at this
    exact this
  have h3 : j < (flatK enc k l.toArray).size := by simpa using hjl
  rw [← flatK_fl hk, Array.getElem?_toList, Array.getElem?_eq_getElem h3]
  have hjc : j < cur.size := by omega
  simp [putCells, hjc, hjl]
theorem perm_in {d d' : Array α} (h : PermIn 0 d.size d d') : d'.toList.Perm d.toList := by
  obtain ⟨h1, _, h3⟩ := h
  rw [← h1, Array.extract_size] at h3
  rw [h1, Array.extract_size] at h3
  exact h3
end
/-- The comparison that the sort is handed: by the beginnings. -/
def cfV (x y : Sp) : Int := Lib.compareInt x.1 y.1
theorem ltV (x y : Sp) : ltOf cfV x y = decide (x.1 < y.1) := by
  unfold ltOf cfV Lib.compareInt
  by_cases h1 : x.1 < y.1
  · simp [h1]
  · by_cases h2 : y.1 < x.1 <;> simp [h1, h2]
theorem swoV : SWO (ltOf cfV) where
  irrefl x := by rw [ltV]; simp
  trans x y z h1 h2 := by rw [ltV] at *; simp at *; omega
  ntrans x y z h1 h2 := by rw [ltV] at *; simp at *; omega
set_option maxHeartbeats 1000000 in
theorem byFrom_any (x y : Sp) (W : World) : Calls Try.prog 40 #[.agg #[.int .i64 x.1, .int .i64 x.2], .agg #[.int .i64 y.1, .int .i64 y.2]] W fun e w' => e = .returned (.int .i64 (cfV x y)) ∧ ∃ q os', w' = grow (W.drewN q) os' := by
  have C := Lib.hid (fun w => compare_any x.1 y.1 w)
  unfold cfV
  generalize Lib.compareInt x.1 y.1 = r at C ⊢
  go_enter Try.func40, Try.ntmps40
  go_wp2_with (go_at_call 41; refine (C.out _).mono ?_; rintro e w' ⟨rfl, rfl⟩)
  go_ret
  exact ⟨rfl, 0, _, by rw [alloc_eq_grow, alloc_eq_grow, grow_grow]; rfl⟩
theorem byFrom_lays (blk off size : Nat) (w : World) : CmpLays Try.prog 40 #[] sc 2 cfV blk off size w :=
  fun _ _ _ _ x y => byFrom_any x y _

theorem sorted_in {d : Array Sp} (h : SortedIn (ltOf cfV) 0 d.size d) : d.toList.Pairwise fun s t => s.1 ≤ t.1 := by
  rw [List.pairwise_iff_getElem]
  intro i j hi hj hij
  have hi' : i < d.size := by simpa using hi
  have hj' : j < d.size := by simpa using hj
  have := h i j (Nat.zero_le _) hij hj'
  rw [ltV, getElem!_pos d i hi', getElem!_pos d j hj', decide_eq_false_iff_not] at this
  simp only [Array.getElem_toList]
  omega
theorem vals_next {l : List Sp} {k : Nat} {s : Sp} (h : l[k]? = some s) : vals (l.take (k + 1)) = if s.1 < s.2 then vals (l.take k) ++ [s] else vals (l.take k) := by
  rw [take_at l k s h]
  unfold vals
  rw [List.filter_append]
  by_cases hs : s.1 < s.2 <;> simp [hs]
theorem vals_len (l : List Sp) : (vals l).length ≤ l.length := List.length_filter_le _ l
/-- A span in a block of its own, behind a call. -/
theorem box_span {w w2 : World} {x y : Int} {T : TypeId} (h : RowKit.Below (w.alloc (.cells #[.int .i64 x, .int .i64 y] T (0, 0))).heap.size (w.alloc (.cells #[.int .i64 x, .int .i64 y] T (0, 0))) w2) :
    w2.cell? ⟨w.heap.size, 0, none⟩ = some (.int .i64 x) ∧ w2.cell? ⟨w.heap.size, 1, none⟩ = some (.int .i64 y) ∧ RowKit.Below w.heap.size w w2 := by
  have rb := (h.block w.heap.size (by simp)).trans (heap_alloc_new w (.cells #[.int .i64 x, .int .i64 y] T (0, 0)))
  refine ⟨?_, ?_, ((RowKit.Below.refl _ _).alloc (Nat.le_refl _) _).trans (h.mono (by simp))⟩
  · rw [cell_of_row _ _ 0 _ _ _ rb]; rfl
  · rw [cell_of_row _ _ 1 _ _ _ rb]; rfl
set_option maxRecDepth 100000 in
set_option maxHeartbeats 4000000 in
theorem sorted_any (v : Value) (l : List Sp) (hl : l.length ≤ 1000000) (w : World) (h : LstV w v l) :
    Calls Try.prog 30 #[v] w fun e w' => ∃ v' r, e = .returned v' ∧ r.Perm (vals l) ∧ (r.Pairwise fun s t => s.1 ≤ t.1) ∧ LstV w' v' r ∧ Below w.heap.size w w' := by
  have hh := h
  obtain ⟨A, c, rfl, -⟩ := hh
  have H := Lib.hid h
  clear h
  go_enter Try.func30, Try.ntmps30
  go_wp2_with fail
  go_loopw [3, 8] (fun u i wr => ∃ k : Nat, i = .int .i64 (k : Int) ∧ k ≤ l.length ∧ Hid (OwnV wr w.heap.size u (vals (l.take k))) ∧ Hid (Below w.heap.size w wr)) (fun _ i _ => l.length - (intOf i).toNat)
  case atStart => exact ⟨0, rfl, Nat.zero_le _, Lib.hid (OwnG.nil _ _ _ _ _), Lib.hid (Below.refl _ _)⟩
  case round =>
    obtain ⟨k, rfl, hk, HO, HB⟩ := hrel
    by_cases hlt : k < l.length
    · obtain ⟨s, hs⟩ := at_lt hlt
      obtain ⟨b, o, rfl, hb, m0, m1⟩ := sp_at (H.out.below HB.out) hs
      have gk : (k : Int) < (l.length : Int) := by omega
      have N := Lib.hid (vals_next hs)
      have VA := Lib.hid (fun W => valid_any s W)
      have hz := HB.out.size
      have hvl : (vals (l.take k)).length ≤ k := Nat.le_trans (vals_len _) (by rw [List.length_take]; omega)
      obtain ⟨x, y⟩ := s
      clear hs
      by_cases hxy : x < y
      · have E : Hid (vals (l.take (k + 1)) = vals (l.take k) ++ [(x, y)]) := by
          show _ = _
          rw [N.out, if_pos hxy]
        rw [show decide ((x, y).1 < (x, y).2) = true from decide_eq_true hxy] at VA
        clear N hxy
        go_wp2_with fail
        refine (VA.out _).mono ?_
        rintro e w2 ⟨rfl, b2⟩
        obtain ⟨t0, t1, bb⟩ := box_span b2
        have O2 := Lib.hid (HO.out.below bb)
        have B2 := Lib.hid (HB.out.trans (bb.mono hz))
        clear b2 bb HO HB m0 m1
        go_wp2_with (at_builtin; refine appG_one sc_len sc_one (by decide) Try.underlying29 info_sp rfl (by decide) _ rfl (.tmp 14) (.tmp 16) rfl w.heap.size _ (vals (l.take k)) (x, y) rfl (World.ownsRow.alloc O2.out _) w2.heap.size _ (heap_alloc_new _ _) rfl rfl (by have := B2.out.size; simp; omega) (by omega) ?_; intro v3 w3 own3 b3 gr3 wh3; have O3 := Lib.hid own3; have B3 := Lib.hid ((B2.out.alloc B2.out.size _).trans b3); clear own3 b3 gr3 wh3)
        have O4 : Hid (OwnV w3 w.heap.size v3 (vals (l.take (k + 1)))) := by
          show OwnV _ _ _ _
          rw [E.out]
          exact O3.out
        clear O3 O2 B2 E t0 t1
        go_wp2_with fail
        go_roundw
        case rel => exact ⟨k + 1, by go_num, by omega, O4, B3⟩
        case measure => simp [intOf]; omega
      · have E : Hid (vals (l.take (k + 1)) = vals (l.take k)) := by
          show _ = _
          rw [N.out, if_neg hxy]
        rw [show decide ((x, y).1 < (x, y).2) = false from decide_eq_false hxy] at VA
        clear N hxy
        go_wp2_with fail
        refine (VA.out _).mono ?_
        rintro e w2 ⟨rfl, b2⟩
        obtain ⟨t0, t1, bb⟩ := box_span b2
        have O2 : Hid (OwnV w2 w.heap.size u3 (vals (l.take (k + 1)))) := by
          show OwnV _ _ _ _
          rw [E.out]
          exact HO.out.below bb
        have B2 := Lib.hid (HB.out.trans (bb.mono hz))
        clear b2 bb HO HB m0 m1 E t0 t1
        go_wp2_with fail
        go_roundw
        case rel => exact ⟨k + 1, by go_num, by omega, O2, B2⟩
        case measure => simp [intOf]; omega
    · have d : decide (k < l.length) = false := by rw [decide_eq_false_iff_not]; exact hlt
      have O : Hid (OwnV wr w.heap.size u3 (vals l)) := by
        have := HO.out
        rw [List.take_of_length_le (by omega)] at this
        exact this
      have hvl := vals_len l
      generalize hvv : vals l = vl at O hvl
      have VE := Lib.hid hvv
      clear hlt HO hvv
      rcases O.out.2 with ⟨rfl, h0⟩ | ⟨g, cap, cur, rfl, hbg, hg, hn, hm, hcs, ht⟩
      · have S0 := Lib.hid (fun W => Try.slices_SortFunc_spans_none none 0 (.func (.func 40) #[] #[]) W)
        have V0 : Hid (vl = []) := List.length_eq_zero_iff.1 h0
        clear O hvl h0
        go_wp2_with fail
        refine (S0.out _).mono ?_
        rintro e w' ⟨rfl, rfl⟩
        go_wp2_with fail
        go_ret
        exact ⟨_, [], rfl, by rw [VE.out, V0.out], List.Pairwise.nil, LstG.nil _ _, HB.out⟩
      · by_cases hz : vl.length = 0
        · have S0 := Lib.hid (fun W => Try.slices_SortFunc_spans_none (some ⟨g, 0, none⟩) cap (.func (.func 40) #[] #[]) W)
          have V0 : Hid (vl = []) := List.length_eq_zero_iff.1 hz
          rw [hz]
          clear O hvl hz hg hn hm hcs ht
          go_wp2_with fail
          refine (S0.out _).mono ?_
          rintro e w' ⟨rfl, rfl⟩
          go_wp2_with fail
          go_ret
          exact ⟨_, [], rfl, by rw [VE.out, V0.out], List.Pairwise.nil, ⟨_, _, rfl, Nat.zero_le _, fun h => absurd h (by simp), fun h => absurd h (Nat.lt_irrefl _)⟩, HB.out⟩
        · have hgl : g < wr.heap.size := (Array.getElem?_eq_some_iff.1 hg).1
          have hH : HoldsK sc 2 wr g 0 vl.toArray := holdsK_own sc_len hg ht
          have eg : ∀ args w, (callFunc 40 args).run Try.prog w = .ok (.enter 40 args) w := enters_of Try.func40 (by kernel_rfl) rfl
          have S1 := Try.slices_SortFunc_spans sc sc_len sc_one cfV swoV 40 #[] g 0 cap vl.toArray wr eg (byFrom_lays g 0 _ wr) hH hgl (by simp; omega)
          have FIN : Hid (∀ (d' : Array Sp) (n : Nat) (os : Array Obj), PermIn 0 vl.toArray.size vl.toArray d' → SortedIn (ltOf cfV) 0 vl.toArray.size d' → d'.toList.Perm vl ∧ (d'.toList.Pairwise fun s t => s.1 ≤ t.1) ∧ LstV (sortWorldK sc 2 wr g 0 n d' os) (.slice (some ⟨g, 0, none⟩) vl.length cap) d'.toList ∧ RowKit.Below w.heap.size w (sortWorldK sc 2 wr g 0 n d' os)) := by
            intro d' n os hp hs
            have p1 := perm_in hp
            have hsz : d'.size = vl.toArray.size := hp.1
            rw [← hsz] at hs
            have hl2 : d'.toList.length = vl.length := p1.length_eq
            have q := lst_sortedK (m := n) (os := os) (cap := cap) sc_len d'.toList hg (by rw [hl2]; omega) (by rw [hl2]; exact hn)
            rw [hl2] at q
            exact ⟨p1, sorted_in hs, q, HB.out.trans ((below_sortK d' hbg HB.out.size))⟩
          have SS := Lib.hid S1
          simp only [List.size_toArray] at SS FIN
          clear O hvl hg hn hm hcs ht hH S1 eg hz hgl
          go_wp2_with fail
          refine SS.out.mono ?_
          rintro e w2 ⟨rfl, d', n, os, hp, hs, hw2⟩
          have K := Lib.hid (FIN.out d' n os hp hs)
          rw [← hw2] at K
          clear hp hs hw2 FIN SS
          go_wp2_with fail
          go_ret
          exact ⟨_, d'.toList, rfl, by rw [VE.out]; exact K.out.1, K.out.2.1, K.out.2.2.1, K.out.2.2.2⟩
end Go.Proofs.Ytmlmdggfcdakhaa
