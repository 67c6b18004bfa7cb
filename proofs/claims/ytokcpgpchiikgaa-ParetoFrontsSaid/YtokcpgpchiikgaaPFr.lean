/-
  Clone, the sort and Front. Condition: lists of at most 1000000 vectors.
-/
import Derived.Test.YtokcpgpchiikgaaPLst
import Derived.Test.YtokcpgpchiikgaaSrtK
import Derived.Test.YtokcpgpchiikgaaRowS
namespace Go.Proofs.Ytokcpgpchiikgaa
open Go.RowKit Go.Sort

theorem clone_any (v : Value) (l : List Vec) (hl : l.length ≤ 1000000) (w : World) (h : LstV w v l) :
    Calls Try.prog 32 #[v] w fun e w' => ∃ v', e = .returned v' ∧ OwnV w' w.heap.size v' l ∧ RowKit.Below w.heap.size w w' := by
  have hh := h
  obtain ⟨A, c, rfl, -, hn, -⟩ := hh
  cases A with
  | none =>
    obtain rfl := hn rfl
    have hl0 : l.length = 0 := by obtain ⟨_, _, hv, h1, _⟩ := h; cases hv; omega
    have hl1 : l = [] := List.length_eq_zero_iff.1 hl0
    subst hl1
    clear h hl0 hn
    simp only [List.length_nil]
    have SN : ∀ W, (binOp BinOp.eql 32 (.slice none 0 0) (.slice none 0 0)).run Try.prog W = .ok (.bool true) W := fun W => slice_is_nil 32 none 0 0 Try.underlying32 W
    go_enter Try.func32, Try.ntmps32
    go_wp2_with fail
    go_ret
    exact ⟨_, rfl, OwnG.nil _ _ _ _ _, RowKit.Below.refl _ _⟩
  | some a =>
    have H := Lib.hid h
    clear h hn
    go_enter Try.func32, Try.ntmps32
    have o0 : OwnV (w.alloc (.cells #[] 23 (0, 0))) w.heap.size (.slice (some ⟨w.heap.size, 0, none⟩) 0 0) [] := World.ownsRow_lit w #[] 0 (Nat.le_refl _) (by unfold maxLen; omega) rfl
    have O0 := Lib.hid o0
    have SN : ∀ W, (binOp BinOp.eql 32 (.slice (some a) l.length c) (.slice none 0 0)).run Try.prog W = .ok (.bool false) W := fun W => slice_is_nil 32 (some a) l.length c Try.underlying32 W
    clear o0
    go_wp2_with (at_builtin; refine appG_list vc_len vc_one (by decide) Try.underlying32 info_pv rfl (by decide) _ rfl (.tmp 5) (.tmp 6) rfl w.heap.size _ [] l rfl O0.out _ rfl (H.out.below ((RowKit.Below.refl _ _).alloc (Nat.le_refl _) _)) (by simp) (by simp; omega) ?_)
    intro v1 w2 own1 b2 _ _
    have R : Hid (OwnV w2 w.heap.size v1 l ∧ RowKit.Below w.heap.size w w2) := ⟨own1, ((RowKit.Below.refl _ _).alloc (Nat.le_refl _) _).trans b2⟩
    clear own1 b2
    go_wp2_with fail
    go_ret
    exact ⟨_, rfl, R.out⟩
theorem ltC (x y : Vec) : ltOf cv x y = decide (cv x y < 0) := rfl
theorem swoC : SWO (ltOf cv) where
  irrefl x := by rw [ltC, cv_self]; rfl
  trans x y z h1 h2 := by rw [ltC] at *; simp at *; exact cv_trans h1 h2
  ntrans x y z h1 h2 := by
    rw [ltC, decide_eq_false_iff_not, cv_not] at *
    rcases Int.lt_or_eq_of_le h1 with h | h
    · exact Int.le_of_lt (cv_le_lt h2 h)
    · rw [cv_zero] at h
      exact h ▸ h2
theorem cmp_lays (blk off size : Nat) (w : World) : CmpLays Try.prog 11 #[] vc 4 cv blk off size w :=
  fun _ _ _ _ x y => cmpx_any x y _
theorem sorted_in {d : Array Vec} (h : SortedIn (ltOf cv) 0 d.size d) : d.toList.Pairwise fun s t => cv s t ≤ 0 := by
  rw [List.pairwise_iff_getElem]
  intro i j hi hj hij
  have hi' : i < d.size := by simpa using hi
  have hj' : j < d.size := by simpa using hj
  have := h i j (Nat.zero_le _) hij hj'
  rw [ltC, getElem!_pos d i hi', getElem!_pos d j hj', decide_eq_false_iff_not, cv_not] at this
  simpa only [Array.getElem_toList] using this
/-- The sort's call. -/
theorem sort_any {base : Nat} (v : Value) (l : List Vec) (hl : l.length ≤ 1000000) (w : World) (h : OwnV w base v l) (hb : base ≤ w.heap.size) :
    Calls Try.prog 33 #[v, .func (.func 11) #[] #[]] w fun e w' => e = .returned (.tuple #[]) ∧ ∃ r, r.Perm l ∧ (r.Pairwise fun s t => cv s t ≤ 0) ∧ LstV w' v r ∧ RowKit.Below base w w' := by
  rcases h.2 with ⟨rfl, h0⟩ | ⟨g, cap, cur, rfl, hbg, hg, hn, hm, hcs, ht⟩
  · obtain rfl := List.length_eq_zero_iff.1 h0
    refine (Try.slices_SortFunc_vecs_none none 0 (.func (.func 11) #[] #[]) w).mono ?_
    rintro e w' ⟨rfl, rfl⟩
    exact ⟨rfl, [], List.Perm.refl _, List.Pairwise.nil, LstG.nil _ _, RowKit.Below.refl _ _⟩
  · have hgl : g < w.heap.size := (Array.getElem?_eq_some_iff.1 hg).1
    have hH : HoldsK vc 4 w g 0 l.toArray := holdsK_own vc_len hg ht
    have eg : ∀ args w, (callFunc 11 args).run Try.prog w = .ok (.enter 11 args) w := enters_of Try.func11 (by kernel_rfl) rfl
    have S1 := Try.slices_SortFunc_vecs vc vc_len vc_one cv swoC 11 #[] g 0 cap l.toArray w eg (cmp_lays g 0 _ w) hH hgl (by simp; omega)
    refine S1.mono ?_
    rintro e w' ⟨rfl, d', n, os, hp, hs, rfl⟩
    have p1 := perm_in hp
    have hsz : d'.size = l.toArray.size := hp.1
    rw [← hsz] at hs
    have hl2 : d'.toList.length = l.length := p1.length_eq
    have q := lst_sortedK (m := n) (os := os) (cap := cap) vc_len d'.toList hg (by rw [hl2, hcs]; exact Nat.mul_le_mul_right _ hn) (by rw [hl2]; exact hn)
    rw [hl2] at q
    exact ⟨rfl, d'.toList, p1, sorted_in hs, q, below_sortK d' hbg hb⟩
set_option maxRecDepth 100000 in
set_option maxHeartbeats 4000000 in
theorem front_any (v : Value) (l : List Vec) (hl : l.length ≤ 1000000) (w : World) (h : LstV w v l) :
    Calls Try.prog 17 #[v] w fun e w' => ∃ v', e = .returned v' ∧ LstV w' v' (frV l) ∧ RowKit.Below w.heap.size w w' := by
  have C := Lib.hid (clone_any v l hl w h)
  clear h
  go_enter Try.func17, Try.ntmps17
  go_wp2_with fail
  refine C.out.mono ?_
  rintro e w1 ⟨v1, rfl, o1, b1⟩
  have S := Lib.hid (sort_any v1 l hl w1 o1 b1.size)
  have B1 := Lib.hid b1
  clear C o1 b1
  go_wp2_with fail
  refine S.out.mono ?_
  rintro e w2 ⟨rfl, r, hp, hs, l2, b2⟩
  have hrl : r.length ≤ 1000000 := by rw [hp.length_eq]; exact hl
  have hfr : frV l = frV r := frV_congr fun x => hp.mem_iff.symm
  have FR := Lib.hid hfr
  have HS := Lib.hid hs
  have B2 := Lib.hid (B1.out.trans b2)
  have hh := l2
  obtain ⟨A, c, rfl, -⟩ := hh
  have L2 := Lib.hid l2
  clear hp hs l2 b2 hfr S B1
  go_wp2_with fail
  go_loopw [4, 13] (fun u i wr => ∃ k : Nat, i = .int .i64 (k : Int) ∧ k ≤ r.length ∧ Hid (OwnV wr w2.heap.size u (frV (r.take k))) ∧ Hid (RowKit.Below w2.heap.size w2 wr)) (fun _ i _ => r.length - (intOf i).toNat)
  case atStart => exact ⟨0, rfl, Nat.zero_le _, Lib.hid (OwnG.nil _ _ _ _ _), Lib.hid (RowKit.Below.refl _ _)⟩
  case round =>
    obtain ⟨k, rfl, hk, HO, HB⟩ := hrel
    by_cases hlt : k < r.length
    · obtain ⟨y, hy⟩ := at_lt hlt
      obtain ⟨b, o, rfl, hb, m0, m1, m2, m3⟩ := v_at (L2.out.below HB.out) hy
      have gk : (k : Int) < (r.length : Int) := by omega
      have N := Lib.hid (scan_next HS.out hy)
      obtain ⟨w3, hw3, hs3, ry, b3⟩ := box_one wr y 23
      have hz := HB.out.size
      have RY := Lib.hid ry
      obtain ⟨n0, n1, n2, n3⟩ := box_at ry
      have hfl : (frV (r.take k)).length ≤ k := Nat.le_trans (frV_len _) (by rw [List.length_take]; omega)
      generalize frV (r.take k) = f at HO N hfl
      have CV := Lib.hid (covers_any _ f y (by omega) w3 (OwnG.lst (HO.out.below b3)))
      have O3 := Lib.hid (HO.out.below b3)
      have B3 := Lib.hid (HB.out.trans (b3.mono hz))
      clear hy ry b3 HO HB
      by_cases hc : cov f y = true
      · rw [hc] at CV
        have E : Hid (frV (r.take (k + 1)) = f) := by
          show _ = _
          rw [N.out, if_pos hc]
        clear N hc
        go_wp2_with fail
        refine CV.out.mono ?_
        rintro e w4 ⟨rfl, b4⟩
        have O4 : Hid (OwnV w4 w2.heap.size u4 (frV (r.take (k + 1)))) := by
          show OwnV _ _ _ _
          rw [E.out]
          exact O3.out.below b4
        have B4 := Lib.hid (B3.out.trans (b4.mono B3.out.size))
        clear b4 CV O3 B3 E
        go_wp2_with fail
        go_roundw
        case rel => exact ⟨k + 1, by go_num, by omega, O4, B4⟩
        case measure => simp [intOf]; omega
      · rw [Bool.eq_false_iff.2 hc] at CV
        have E : Hid (frV (r.take (k + 1)) = f ++ [y]) := by
          show _ = _
          rw [N.out, if_neg hc]
        clear N hc
        go_wp2_with fail
        refine CV.out.mono ?_
        rintro e w4 ⟨rfl, b4⟩
        obtain ⟨q0, q1, q2, q3⟩ := box_at ((b4.block wr.heap.size (by omega)).trans RY.out)
        have O4 := Lib.hid (O3.out.below b4)
        have B4 := Lib.hid (B3.out.trans (b4.mono B3.out.size))
        clear b4 CV O3 B3
        go_wp2_with (at_builtin; refine appG_one vc_len vc_one (by decide) Try.underlying32 info_pv rfl (by decide) _ rfl (.tmp 21) (.tmp 23) rfl w2.heap.size _ f y rfl (World.ownsRow.alloc O4.out _) w4.heap.size _ (heap_alloc_new _ _) rfl rfl (by have := B4.out.size; simp; omega) (by omega) ?_; intro v5 w5 own5 b5 gr5 wh5; have O5 := Lib.hid own5; have B5 := Lib.hid ((B4.out.alloc B4.out.size _).trans b5); clear own5 b5 gr5 wh5)
        have O6 : Hid (OwnV w5 w2.heap.size v5 (frV (r.take (k + 1)))) := by
          show OwnV _ _ _ _
          rw [E.out]
          exact O5.out
        clear O5 O4 B4 E
        go_wp2_with fail
        go_roundw
        case rel => exact ⟨k + 1, by go_num, by omega, O6, B5⟩
        case measure => simp [intOf]; omega
    · have d : decide (k < r.length) = false := by rw [decide_eq_false_iff_not]; exact hlt
      have O : Hid (LstV wr u4 (frV l)) := by
        have := HO.out
        rw [List.take_of_length_le (by omega), ← FR.out] at this
        exact OwnG.lst this
      clear hlt HO
      go_wp2_with fail
      go_ret
      exact ⟨_, rfl, O.out, B2.out.trans (HB.out.mono B2.out.size)⟩
end Go.Proofs.Ytokcpgpchiikgaa
