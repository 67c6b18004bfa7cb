/-
  Instances of package frequency: the starts of all frequencies of a trip in ascending order; nothing that existed before the call has changed behind it. Condition: lists of at most 1000 frequencies.
-/
import Derived.Test.YtahnaidkobodaaaHzJ
import Derived.Test.YtahnaidkobodaaaShelf
namespace Go.Proofs.Ytahnaidkobodaaa
open Go.RowKit Go.Shelf Go.Sort
attribute [local go_sem] Oper.semAt_some

set_option maxRecDepth 100000 in
set_option maxHeartbeats 4000000 in
theorem kmerge_in (t a b v : Int) (M : Nat) (u0 : Value) (l : List Int) (hl : l.length ≤ 1000000000) (w : World) (h0 : Boxed w M 32 u0) (hr0 : w.ownsRow M 3 1 u0 l.length (ints l)) :
    CallsIn Fence.wide 3 Try.prog 29 #[fqV t a b v, .pointer (some ⟨M, 0, none⟩)] w fun e W' => e = .returned (.tuple #[]) ∧ ∃ u, Boxed W' M 32 u ∧ W'.ownsRow M 3 1 u (l ++ stsF (t, a, b, v)).length (ints (l ++ stsF (t, a, b, v))) ∧ RowKit.Below M w W' := by
  obtain ⟨i0, hi, hz0, hz1, hz2⟩ := info_parts info_int
  refine callsIn_of_wp_marks Try.func29 rfl trivial ?_ rfl
  simp only [Try.ntmps29, List.size_toArray, List.length_cons, List.length_nil, Nat.reduceAdd, Nat.reduceSub, Array.replicate_succ, Array.replicate_zero, List.push_toArray, List.append_toArray, List.nil_append, List.cons_append]
  have hM := h0.lt
  obtain ⟨w7, hw7⟩ : ∃ W, w.alloc (boxF t a b v) = W := ⟨_, rfl⟩
  obtain ⟨b7, p0, p1, p2, p3, s7, c7⟩ := box_fq hw7
  have x7 : Boxed w7 M 32 u0 := (b7.block _ hM).trans h0
  have r7 : w7.ownsRow M 3 1 u0 l.length (ints l) := ownK_below hr0 b7
  obtain ⟨w9, hw9⟩ : ∃ W, w7.alloc (boxF t a b v) = W := ⟨_, rfl⟩
  obtain ⟨b9, -, -, -, -, s9, c9⟩ := box_fq hw9
  have x9 : Boxed w9 M 32 u0 := (b9.block _ x7.lt).trans x7
  have r9 : w9.ownsRow M 3 1 u0 l.length (ints l) := ownK_below r7 b9
  have B9 : RowKit.Below M w w9 := (b7.mono (Nat.le_of_lt hM)).trans (b9.mono (Nat.le_of_lt x7.lt))
  have hMz : M < w7.heap.size := x7.lt
  clear b7 c7 s7 b9 x7 r7 h0 hr0
  gi_wp2_with (refine ⟨trivial, ?_⟩; gi_at_call 28; refine (callsIn_wide.2 (starts_of t a b v _)).mono ?_; rintro e w' ⟨rfl, rfl⟩)
  clear hw9 hw7
  refine wpIn_rangeFunc_ownG rfl (show 1 ≤ 3 by decide) (gf := 40) (lb := #[.pointer (some ⟨w7.heap.size, 0, none⟩)]) rfl trivial (enters_of Try.func40 (by kernel_rfl) rfl)
    (starts_stops t a b v (3 - 1) w7.heap.size (by decide) w9 c9) boxK_t (boxK_b s9) (RowKit.Below.refl _ _) (fun _ => rfl)
    (fun pre W => (∃ u, Boxed W M 32 u ∧ W.ownsRow M 3 1 u (l ++ pre).length (ints (l ++ pre)) ∧ True) ∧ RowKit.Below M w W ∧ W.heap[w7.heap.size]? = some (boxF t a b v))
    (fun _ _ _ => False)
    (OwnFrom.and (Own.from (holdsRow_own M M 32 3 1 (fun pre => (l ++ pre).length) (fun pre => ints (l ++ pre)) (fun _ _ => True)) _) (OwnFrom.and (ownFrom_below (by omega) (by omega)) (boxF_own _ _ t a b v)))
    (fun _ _ _ _ _ hs _ _ => hs)
    ⟨⟨_, x9, by rw [List.append_nil]; exact r9, trivial⟩, B9, c9⟩
    (fun x => { tmps := #[fqV t a b v, .pointer (some ⟨M, 0, none⟩), .pointer (some ⟨w.heap.size, 0, none⟩), .int .i64 x, fqV t a b v, .func (.func 40) #[] #[.pointer (some ⟨w7.heap.size, 0, none⟩)], .int .i64 x, undef, undef, undef, undef], defers := [] }) ?assign ?body ?done ?stop
  case assign =>
    intro l x W K hK
    gi_wp2
    exact hK
  case body =>
    rintro lb pre x W ⟨⟨u, hv, hrow, -⟩, hB, hX⟩ hlt
    have hc := hv.cell
    have hlen : (l ++ pre).length ≤ 2000000000 := by rw [List.length_append]; omega
    have hWM : M ≤ W.heap.size := Nat.le_of_lt hv.lt
    have eap : l ++ (pre ++ [x]) = (l ++ pre) ++ [x] := (List.append_assoc _ _ _).symm
    obtain ⟨q, hq⟩ : ∃ q, l ++ pre = q := ⟨_, rfl⟩
    rw [hq] at hrow hlen eap
    have EQ := Lib.hid eap
    clear eap hq
    gi_wp2_with (gi_at_builtin; refine wpListIn_append_own _ rfl _ _ 32 rfl M 3 i0 (.int .i64 0) 1 8 Try.underlying32 hi hz0 hz1 hz2 rfl (by decide) _ _ _ rfl (hrow.alloc _) ⟨W.heap.size, 0, none⟩ 1 1 [.int .i64 x] rfl rfl (cell_one_new _ _ _) (by simp [Value.oneCell']) (by unfold maxLen; omega) (by omega) (by simp; omega) ?_; intro v' w1 hown' hgrow _; obtain ⟨g', cap', rfl⟩ := ownsRow_succ hown'; obtain ⟨hv1, hv2, hr2, hk2, hb2⟩ := hv.appended (by decide) hrow hWM (Nat.le_refl _) hown' hgrow; have hkp := box_kept (u' := .slice (some ⟨g', 0, none⟩) (q.length + 1) cap') hX hrow hgrow (show w7.heap.size ≠ M by omega); have hc1 := hv1.cell; have hf1 := hv1.frozen)
    exact ⟨hk2.from _, hkp, ⟨_, hv2, by rw [EQ.out]; simpa using hr2, trivial⟩, hB.trans hb2, hkp.trans hX⟩
  case done =>
    rintro D ys W hD rfl ⟨⟨u, hv, hrow, -⟩, hB, hX⟩ hK
    gi_wp2
    refine ⟨by simp, .inl ⟨_, _, rfl, run_takeDeferred hK, ?_⟩⟩
    have hvD := hv.kept (grownBy_putObj' W D (.deferred none)) (by simp; omega)
    exact ⟨_, results_none rfl _ _ _, rfl, u, hvD, ownsRow_putObj hrow _ hK rfl, hB.trans (belowK_b (w := w9) (by omega) W D _ _ hD hK rfl rfl)⟩
  case stop =>
    rintro D c pre W _ _ h _
    exact h.elim
theorem kmerge_any (t a b v : Int) (M : Nat) (u0 : Value) (l : List Int) (hl : l.length ≤ 1000000000) (w : World) (h0 : Boxed w M 32 u0) (hr0 : w.ownsRow M 3 1 u0 l.length (ints l)) :
    Calls Try.prog 29 #[fqV t a b v, .pointer (some ⟨M, 0, none⟩)] w fun e W' => e = .returned (.tuple #[]) ∧ ∃ u, Boxed W' M 32 u ∧ W'.ownsRow M 3 1 u (l ++ stsF (t, a, b, v)).length (ints (l ++ stsF (t, a, b, v))) ∧ RowKit.Below M w W' := callsIn_wide.1 (kmerge_in t a b v M u0 l hl w h0 hr0)
/-- What Instances knows ahead of a round: the merged starts in a box. -/
def MrgSt (w : World) (t : Int) (l : List Fq) (k : Nat) (wr : World) : Prop :=
  ∃ u, Boxed wr w.heap.size 32 u ∧ wr.ownsRow w.heap.size 3 1 u (insF t (l.take k)).length (ints (insF t (l.take k))) ∧ RowKit.Below w.heap.size w wr
set_option maxRecDepth 100000 in
set_option maxHeartbeats 4000000 in
theorem kinst_any (vl : Value) (l : List Fq) (hl : l.length ≤ 1000) (tr : Int) (w : World) (h : LstF w vl l) :
    Calls Try.prog 17 #[vl, .int .i64 tr] w fun e w' => ∃ u, e = .returned u ∧ LstI w' u (srtI (insF tr l)) ∧ RowKit.Below w.heap.size w w' := by
  have H := Lib.hid h
  obtain ⟨A, n, rfl, -, -, -⟩ := h
  obtain ⟨w1, hw1⟩ : ∃ W, w.alloc (.cells #[.slice none 0 0] 32 (0, 0)) = W := ⟨_, rfl⟩
  have b1 : RowKit.Below w.heap.size w w1 := by rw [← hw1]; exact (RowKit.Below.refl _ _).alloc (Nat.le_refl _) _
  have x1 : Boxed w1 w.heap.size 32 (.slice none 0 0) := by rw [← hw1]; exact Boxed.new _ _ _
  have M1 : Hid (MrgSt w tr l 0 w1) := ⟨_, x1, World.ownsRow_nil _ _ _ _, b1⟩
  clear b1 x1
  go_enter Try.func17, Try.ntmps17
  go_wp2_with fail
  go_loopw [12] (fun i wr => ∃ k : Nat, i = .int .i64 k ∧ k ≤ l.length ∧ Hid (MrgSt w tr l k wr)) (fun i _ => l.length - (intOf i).toNat)
  case atStart => exact ⟨0, rfl, Nat.zero_le _, M1⟩
  case round =>
    clear M1 hw1
    obtain ⟨k, rfl, hk, HM⟩ := hrel
    obtain ⟨u, hx, hr, hb⟩ := HM.out
    by_cases hlt : k < l.length
    · obtain ⟨⟨t, a, b, v⟩, hf⟩ := at_lt hlt
      obtain ⟨p, o, rfl, hp, m0, m1, m2, m3⟩ := four_at (H.out.below hb) hf
      have gk : (k : Int) < (l.length : Int) := by omega
      obtain ⟨w7, hw7⟩ : ∃ W, wr.alloc (boxF t a b v) = W := ⟨_, rfl⟩
      obtain ⟨b7, p0, p1, p2, p3, s7, c7⟩ := box_fq hw7
      have x7 : Boxed w7 w.heap.size 32 u := (b7.block _ hx.lt).trans hx
      have r7 := ownK_below hr b7
      have B7 : Hid (RowKit.Below w.heap.size w w7) := hb.trans (b7.mono hb.size)
      have hlen : (insF tr (l.take k)).length ≤ 1000000000 := by
        have := ins_le tr (l.take k)
        have h2 : (l.take k).length ≤ 1000 := by rw [List.length_take]; omega
        omega
      by_cases ht : t = tr
      · have g := beq_true ht
        have C := Lib.hid (kmerge_any t a b v w.heap.size u (insF tr (l.take k)) hlen w7 x7 r7)
        have N := Lib.hid (ins_yes (t := tr) hf ht)
        clear hf hp b7 c7 x7 r7 HM hx hr hb hlen ht
        go_wp2_with fail
        refine C.out.mono ?_
        rintro e w8 ⟨rfl, u8, x8, r8, b8⟩
        have M8 : Hid (MrgSt w tr l (k + 1) w8) := ⟨u8, x8, by rw [N.out]; exact r8, B7.out.trans b8⟩
        clear x8 r8 b8 C N B7
        go_wp2_with fail
        go_roundw
        case rel => exact ⟨k + 1, by go_num, by omega, M8⟩
        case measure => simp [intOf]; omega
      · have g := beq_false ht
        have M8 : Hid (MrgSt w tr l (k + 1) w7) := ⟨u, x7, by rw [ins_no hf ht]; exact r7, B7.out⟩
        clear hf hp b7 c7 x7 r7 HM hx hr hb hlen ht
        go_wp2_with fail
        go_roundw
        case rel => exact ⟨k + 1, by go_num, by omega, M8⟩
        case measure => simp [intOf]; omega
    · have dk : decide (k < l.length) = false := by rw [decide_eq_false_iff_not]; exact hlt
      rw [List.take_of_length_le (by omega)] at hr
      have hel := ins_le tr l
      generalize hE : insF tr l = E at hr hel
      have VE := Lib.hid hE
      clear hE
      have hc := hx.cell
      have hM := hx.lt
      have BB := Lib.hid hb
      clear hlt hk HM hb
      rcases hr.2 with ⟨rfl, h0⟩ | ⟨g, cap, cur, rfl, hbg, hg, hn, hm, hcs, ht⟩
      · have S0 := Lib.hid (fun W => Try.slices_Sort_int_none none 0 W)
        have V0 : Hid (E = []) := List.length_eq_zero_iff.1 h0
        clear hr hel h0
        go_wp2_with fail
        refine (S0.out _).mono ?_
        rintro e w' ⟨rfl, rfl⟩
        go_wp2_with fail
        go_ret
        exact ⟨_, rfl, by rw [VE.out, V0.out, srtI_nil]; exact LstI.nil _, BB.out⟩
      · by_cases hz : E.length = 0
        · have S0 := Lib.hid (fun W => Try.slices_Sort_int_none (some ⟨g, 0, none⟩) cap W)
          have V0 : Hid (E = []) := List.length_eq_zero_iff.1 hz
          rw [hz] at hc
          clear hr hel hz hg hn hm hcs ht
          go_wp2_with fail
          refine (S0.out _).mono ?_
          rintro e w' ⟨rfl, rfl⟩
          go_wp2_with fail
          go_ret
          exact ⟨_, rfl, by rw [VE.out, V0.out, srtI_nil]; exact ⟨_, _, rfl, Nat.zero_le _, fun h => absurd h (by simp), fun h => absurd h (Nat.lt_irrefl _)⟩, BB.out⟩
        · have hgl : g < wr.heap.size := (Array.getElem?_eq_some_iff.1 hg).1
          have hgM : w.heap.size ≠ g := fun e => by
            have h1 : wr.heap[w.heap.size]? = _ := hx
            rw [e, hg] at h1
            cases h1
          rw [Nat.mul_one] at ht
          have S1 := Try.slices_Sort_int g 0 cap E wr (holdsI_own hg ht) hgl (by omega)
          have FIN : Hid (∀ (n : Nat) (os : Array Obj), LstI (grow (putRow (Value.int .i64) (Sort.ahead wr n) g 0 (srtI E).toArray) os) (.slice (some ⟨g, 0, none⟩) E.length cap) (srtI E) ∧ RowKit.Below (w.heap.size + 1) wr (grow (putRow (Value.int .i64) (Sort.ahead wr n) g 0 (srtI E).toArray) os)) := by
            intro n os
            have q := lst_sortedI (m := n) (os := os) (cap := cap) (srtI E) hg (by rw [srtI_len]; omega) (by rw [srtI_len]; exact hn)
            rw [srtI_len] at q
            exact ⟨q, below_sortI _ (by omega) (by omega)⟩
          have SS := Lib.hid S1
          have HX := Lib.hid hx
          clear hr hel hg hn hm hcs ht S1 hz hgl hx
          go_wp2_with fail
          refine SS.out.mono ?_
          rintro e w2 ⟨rfl, n, os, hw2⟩
          have K := Lib.hid (FIN.out n os)
          rw [← show w2 = grow (putRow (Value.int .i64) (Sort.ahead wr n) g 0 (srtI E).toArray) os from hw2] at K
          have x2 : Boxed w2 w.heap.size 32 (.slice (some ⟨g, 0, none⟩) E.length cap) := (K.out.2.block _ (by omega)).trans HX.out
          have c2 := x2.cell
          clear hw2 FIN SS x2 hc
          go_wp2_with fail
          go_ret
          exact ⟨_, rfl, by rw [VE.out]; exact K.out.1, BB.out.trans (K.out.2.mono (by omega))⟩
end Go.Proofs.Ytahnaidkobodaaa
