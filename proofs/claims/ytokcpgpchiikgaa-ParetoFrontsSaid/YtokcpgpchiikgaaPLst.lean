/-
  The laws' own helpers: from, to, turned; the reference's Same and slices.Equal. Condition: lists of at most 1000000 vectors.
-/
import Derived.Test.YtokcpgpchiikgaaPCov
namespace Go.Proofs.Ytokcpgpchiikgaa
open Go.RowKit Go.Sort

set_option maxRecDepth 100000 in
set_option maxHeartbeats 4000000 in
theorem from_any (v : Value) (l : List Vec) (hl : l.length ≤ 1000000) (w : World) (h : LstV w v l) :
    Calls Try.prog 14 #[v] w fun e w' => ∃ v', e = .returned v' ∧ LstV w' v' l ∧ Below w.heap.size w w' := by
  have hh := h
  obtain ⟨A, c, rfl, -⟩ := hh
  have H := Lib.hid h
  clear h
  go_enter Try.func14, Try.ntmps14
  go_wp2_with fail
  go_loopw [3, 4] (fun u i wr => ∃ k : Nat, i = .int .i64 (k : Int) ∧ k ≤ l.length ∧ Hid (OwnV wr w.heap.size u (l.take k)) ∧ Hid (Below w.heap.size w wr)) (fun _ i _ => l.length - (intOf i).toNat)
  case atStart => exact ⟨0, rfl, Nat.zero_le _, Lib.hid (OwnG.nil _ _ _ _ _), Lib.hid (Below.refl _ _)⟩
  case round =>
    obtain ⟨k, rfl, hk, HO, HB⟩ := hrel
    by_cases hlt : k < l.length
    · obtain ⟨y, hy⟩ := at_lt hlt
      obtain ⟨b, o, rfl, hb, m0, m1, m2, m3⟩ := v_at (H.out.below HB.out) hy
      have gk : (k : Int) < (l.length : Int) := by omega
      have E := Lib.hid (take_at l k y hy)
      have hz := HB.out.size
      have htl : (l.take k).length ≤ k := by rw [List.length_take]; omega
      clear hy
      go_wp2_with (at_builtin; refine appG_one vc_len vc_one (by decide) Try.underlying32 info_pv rfl (by decide) _ rfl (.tmp 11) (.tmp 16) rfl w.heap.size _ (l.take k) y rfl (World.ownsRow.alloc HO.out _) wr.heap.size _ (heap_alloc_new _ _) rfl rfl (by simp; omega) (by omega) ?_; intro v3 w3 own3 b3 gr3 wh3; have O3 := Lib.hid own3; have B3 := Lib.hid ((HB.out.alloc hz _).trans b3); clear own3 b3 gr3 wh3)
      have O4 : Hid (OwnV w3 w.heap.size v3 (l.take (k + 1))) := by
        show OwnV _ _ _ _
        rw [E.out]
        exact O3.out
      clear O3 E HO HB m0 m1 m2 m3
      go_wp2_with fail
      go_roundw
      case rel => exact ⟨k + 1, by go_num, by omega, O4, B3⟩
      case measure => simp [intOf]; omega
    · have d : decide (k < l.length) = false := by rw [decide_eq_false_iff_not]; exact hlt
      have O : Hid (LstV wr u3 l) := by
        have := HO.out
        rw [List.take_of_length_le (by omega)] at this
        exact OwnG.lst this
      clear hlt HO
      go_wp2_with fail
      go_ret
      exact ⟨_, rfl, O.out, HB.out⟩
set_option maxRecDepth 100000 in
set_option maxHeartbeats 4000000 in
theorem to_any (v : Value) (l : List Vec) (hl : l.length ≤ 1000000) (w : World) (h : LstV w v l) :
    Calls Try.prog 16 #[v] w fun e w' => ∃ v', e = .returned v' ∧ LstV w' v' l ∧ Below w.heap.size w w' := by
  have hh := h
  obtain ⟨A, c, rfl, -⟩ := hh
  have H := Lib.hid h
  clear h
  go_enter Try.func16, Try.ntmps16
  go_wp2_with fail
  go_loopw [3, 4] (fun u i wr => ∃ k : Nat, i = .int .i64 (k : Int) ∧ k ≤ l.length ∧ Hid (OwnR wr w.heap.size u (l.take k)) ∧ Hid (Below w.heap.size w wr)) (fun _ i _ => l.length - (intOf i).toNat)
  case atStart => exact ⟨0, rfl, Nat.zero_le _, Lib.hid (OwnG.nil _ _ _ _ _), Lib.hid (Below.refl _ _)⟩
  case round =>
    obtain ⟨k, rfl, hk, HO, HB⟩ := hrel
    by_cases hlt : k < l.length
    · obtain ⟨y, hy⟩ := at_lt hlt
      obtain ⟨b, o, rfl, hb, m0, m1, m2, m3⟩ := v_at (H.out.below HB.out) hy
      have gk : (k : Int) < (l.length : Int) := by omega
      have E := Lib.hid (take_at l k y hy)
      have hz := HB.out.size
      have htl : (l.take k).length ≤ k := by rw [List.length_take]; omega
      clear hy
      go_wp2_with (at_builtin; refine appG_one vc_len vc_one (by decide) Try.underlying35 info_rv rfl (by decide) _ rfl (.tmp 11) (.tmp 16) rfl w.heap.size _ (l.take k) y rfl (World.ownsRow.alloc HO.out _) wr.heap.size _ (heap_alloc_new _ _) rfl rfl (by simp; omega) (by omega) ?_; intro v3 w3 own3 b3 gr3 wh3; have O3 := Lib.hid own3; have B3 := Lib.hid ((HB.out.alloc hz _).trans b3); clear own3 b3 gr3 wh3)
      have O4 : Hid (OwnR w3 w.heap.size v3 (l.take (k + 1))) := by
        show OwnR _ _ _ _
        rw [E.out]
        exact O3.out
      clear O3 E HO HB m0 m1 m2 m3
      go_wp2_with fail
      go_roundw
      case rel => exact ⟨k + 1, by go_num, by omega, O4, B3⟩
      case measure => simp [intOf]; omega
    · have d : decide (k < l.length) = false := by rw [decide_eq_false_iff_not]; exact hlt
      have O : Hid (LstV wr u3 l) := by
        have := HO.out
        rw [List.take_of_length_le (by omega)] at this
        exact OwnG.lst this
      clear hlt HO
      go_wp2_with fail
      go_ret
      exact ⟨_, rfl, O.out, HB.out⟩
theorem rev_next {l : List Vec} {k : Nat} {y : Vec} (h : l[l.length - 1 - k]? = some y) (hk : k < l.length) : l.reverse.take (k + 1) = l.reverse.take k ++ [y] := by
  refine take_at _ k y ?_
  rw [List.getElem?_reverse hk]
  exact h
set_option maxRecDepth 100000 in
set_option maxHeartbeats 4000000 in
theorem turned_any (v : Value) (l : List Vec) (hl : l.length ≤ 1000000) (w : World) (h : LstV w v l) :
    Calls Try.prog 29 #[v] w fun e w' => ∃ v', e = .returned v' ∧ LstV w' v' l.reverse ∧ Below w.heap.size w w' := by
  have hh := h
  obtain ⟨A, c, rfl, -⟩ := hh
  have H := Lib.hid h
  have e0 : IntKind.i64.wrap ((l.length : Int) - 1) = (l.length : Int) - 1 := IntWalk.i64_in _ (by omega)
  have E0 := Lib.hid e0
  clear h
  go_enter Try.func29, Try.ntmps29
  go_wp2_with fail
  clear e0
  go_loopw [3, 4] (fun u i wr => ∃ k : Nat, (i = .int .i64 (-1) ∧ k = l.length ∨ ∃ j : Nat, i = .int .i64 (j : Int) ∧ j + k + 1 = l.length) ∧ Hid (OwnV wr w.heap.size u (l.reverse.take k)) ∧ Hid (Below w.heap.size w wr)) (fun _ i _ => (intOf i + 1).toNat)
  case atStart =>
    refine ⟨0, ?_, Lib.hid (OwnG.nil _ _ _ _ _), Lib.hid (Below.refl _ _)⟩
    by_cases hl0 : l.length = 0
    · exact .inl ⟨by rw [hl0]; rfl, hl0.symm⟩
    · exact .inr ⟨l.length - 1, by rw [show ((l.length - 1 : Nat) : Int) = (l.length : Int) - 1 by omega], by omega⟩
  case round =>
    obtain ⟨k, ⟨rfl, hk⟩ | ⟨j, rfl, hk⟩, HO, HB⟩ := hrel
    · have O : Hid (LstV wr u3 l.reverse) := by
        have := HO.out
        rw [List.take_of_length_le (by rw [List.length_reverse]; omega)] at this
        exact OwnG.lst this
      clear HO hk
      go_wp2_with fail
      go_ret
      exact ⟨_, rfl, O.out, HB.out⟩
    · obtain ⟨y, hy⟩ := (at_lt (by omega) : ∃ y, l[j]? = some y)
      obtain ⟨b, o, rfl, hb, m0, m1, m2, m3⟩ := v_at (H.out.below HB.out) hy
      have E := Lib.hid (rev_next (k := k) (by rw [show l.length - 1 - k = j by omega]; exact hy) (by omega))
      have hz := HB.out.size
      have htl : (l.reverse.take k).length ≤ k := by rw [List.length_take]; omega
      have gk : (j : Int) < (l.length : Int) := by omega
      have EJ : IntKind.i64.wrap ((j : Int) - 1) = (j : Int) - 1 := IntWalk.i64_in _ (by omega)
      clear hy
      go_wp2_with (at_builtin; refine appG_one vc_len vc_one (by decide) Try.underlying32 info_pv rfl (by decide) _ rfl (.tmp 12) (.tmp 17) rfl w.heap.size _ (l.reverse.take k) y rfl (World.ownsRow.alloc HO.out _) wr.heap.size _ (heap_alloc_new _ _) rfl rfl (by simp; omega) (by omega) ?_; intro v3 w3 own3 b3 gr3 wh3; have O3 := Lib.hid own3; have B3 := Lib.hid ((HB.out.alloc hz _).trans b3); clear own3 b3 gr3 wh3)
      have O4 : Hid (OwnV w3 w.heap.size v3 (l.reverse.take (k + 1))) := by
        show OwnV _ _ _ _
        rw [E.out]
        exact O3.out
      clear O3 E HO HB m0 m1 m2 m3
      go_wp2_with fail
      go_roundw
      case rel =>
        refine ⟨k + 1, ?_, O4, B3⟩
        by_cases hj : j = 0
        · exact .inl ⟨by rw [hj]; rfl, by omega⟩
        · exact .inr ⟨j - 1, by rw [show ((j - 1 : Nat) : Int) = (j : Int) - 1 by omega], by omega⟩
      case measure => simp [intOf]
theorem eq_take {α : Type} {a b : List α} (hab : a.length = b.length) {k : Nat} (hk : ¬ k < a.length) (h : a.take k = b.take k) : a = b := by
  rw [List.take_of_length_le (by omega), List.take_of_length_le (by omega)] at h
  exact h
theorem eq_next {α : Type} {a b : List α} {k : Nat} {x y : α} (hx : a[k]? = some x) (hy : b[k]? = some y) (h : a.take k = b.take k) : (x = y → a.take (k + 1) = b.take (k + 1)) ∧ (¬ x = y → ¬ a = b) := by
  constructor
  · intro e
    rw [take_at a k x hx, take_at b k y hy, h, e]
  · intro e hab
    rw [hab, hy] at hx
    exact e (Option.some.inj hx).symm
set_option maxRecDepth 100000 in
set_option maxHeartbeats 4000000 in
theorem same_any (va vb : Value) (a b : List Vec) (ha : a.length ≤ 1000000) (_ : b.length ≤ 1000000) (w : World) (hA : LstV w va a) (hB : LstV w vb b) : Calls Try.prog 15 #[va, vb] w fun e w' => e = .returned (.bool (decide (a = b))) ∧ Below w.heap.size w w' := by
  have hh := hA
  obtain ⟨A, ca, rfl, -⟩ := hh
  have hh := hB
  obtain ⟨B, cb, rfl, -⟩ := hh
  have HA := Lib.hid hA
  have HB := Lib.hid hB
  clear hA hB
  have gq := gq_rv
  by_cases hab : a.length = b.length
  · have HL := Lib.hid hab
    rw [← hab]
    have q : ((a.length : Int) != (a.length : Int)) = false := neq_false rfl
    rw [← hab] at HB
    clear hab
    go_enter Try.func15, Try.ntmps15
    go_wp2_with fail
    go_loopw [5] (fun i wr => ∃ k : Nat, i = .int .i64 (k : Int) ∧ k ≤ a.length ∧ Hid (a.take k = b.take k) ∧ Hid (Below w.heap.size w wr)) (fun i _ => a.length - (intOf i).toNat)
    case atStart => exact ⟨0, rfl, Nat.zero_le _, Lib.hid rfl, Lib.hid (Below.refl _ _)⟩
    case round =>
      obtain ⟨k, rfl, hk, HE, HW⟩ := hrel
      by_cases hlt : k < a.length
      · obtain ⟨x, hx⟩ := at_lt hlt
        obtain ⟨y, hy⟩ := (at_lt (HL.out ▸ hlt) : ∃ y, b[k]? = some y)
        obtain ⟨p, o, rfl, hp, m0, m1, m2, m3⟩ := v_at (HA.out.below HW.out) hx
        obtain ⟨p', o', rfl, hp', n0, n1, n2, n3⟩ := v_at (HB.out.below HW.out) hy
        have gk : (k : Int) < (a.length : Int) := by omega
        have EN := Lib.hid (eq_next hx hy HE.out)
        clear hx hy HE
        by_cases e : x = y
        · have EQ := neq_is Try.underlying26 (q := false) (by rw [decide_eq_true e]; rfl)
          have N : Hid (a.take (k + 1) = b.take (k + 1)) := EN.out.1 e
          clear EN e
          go_wp2_with fail
          go_quiet (fail)
          have B2 := Lib.hid (below_drewN HW.out nq)
          clear m0 m1 m2 m3 n0 n1 n2 n3 HW
          generalize wr.drewN nq = w2 at B2 ⊢
          go_wp2_with fail
          go_roundw
          case rel => exact ⟨k + 1, by go_num, by omega, N, B2⟩
          case measure => simp [intOf]; omega
        · have EQ := neq_is Try.underlying26 (q := true) (by rw [decide_eq_false e]; rfl)
          have N : Hid (decide (a = b) = false) := decide_eq_false (EN.out.2 e)
          clear EN e
          go_wp2_with fail
          go_quiet (fail)
          have B2 := Lib.hid (below_drewN HW.out nq)
          clear m0 m1 m2 m3 n0 n1 n2 n3 HW
          generalize wr.drewN nq = w2 at B2 ⊢
          go_wp2_with fail
          go_ret
          exact ⟨ret_bool N.out.symm, B2.out⟩
      · have d : decide (k < a.length) = false := by rw [decide_eq_false_iff_not]; exact hlt
        have N : Hid (decide (a = b) = true) := decide_eq_true (eq_take HL.out hlt HE.out)
        clear hlt HE
        go_wp2_with fail
        go_ret
        exact ⟨ret_bool N.out.symm, HW.out⟩
  · have q : ((a.length : Int) != (b.length : Int)) = true := bne_true (by omega)
    have N : Hid (decide (a = b) = false) := decide_eq_false fun e => hab (by rw [e])
    clear hab
    go_enter Try.func15, Try.ntmps15
    go_wp2_with fail
    go_ret
    exact ⟨ret_bool N.out.symm, Below.refl _ _⟩
set_option maxRecDepth 100000 in
set_option maxHeartbeats 4000000 in
theorem equal_any (va vb : Value) (a b : List Vec) (ha : a.length ≤ 1000000) (_ : b.length ≤ 1000000) (w : World) (hA : LstV w va a) (hB : LstV w vb b) : Calls Try.prog 35 #[va, vb] w fun e w' => e = .returned (.bool (decide (a = b))) ∧ Below w.heap.size w w' := by
  have hh := hA
  obtain ⟨A, ca, rfl, -⟩ := hh
  have hh := hB
  obtain ⟨B, cb, rfl, -⟩ := hh
  have HA := Lib.hid hA
  have HB := Lib.hid hB
  clear hA hB
  have gq := gq_pv
  by_cases hab : a.length = b.length
  · have HL := Lib.hid hab
    rw [← hab]
    have q : ((a.length : Int) != (a.length : Int)) = false := neq_false rfl
    rw [← hab] at HB
    clear hab
    go_enter Try.func35, Try.ntmps35
    go_wp2_with fail
    go_loopw [13] (fun i wr => ∃ k : Nat, i = .int .i64 (k : Int) ∧ k ≤ a.length ∧ Hid (a.take k = b.take k) ∧ Hid (Below w.heap.size w wr)) (fun i _ => a.length - (intOf i).toNat)
    case atStart => exact ⟨0, rfl, Nat.zero_le _, Lib.hid rfl, Lib.hid (Below.refl _ _)⟩
    case round =>
      obtain ⟨k, rfl, hk, HE, HW⟩ := hrel
      by_cases hlt : k < a.length
      · obtain ⟨x, hx⟩ := at_lt hlt
        obtain ⟨y, hy⟩ := (at_lt (HL.out ▸ hlt) : ∃ y, b[k]? = some y)
        obtain ⟨p, o, rfl, hp, m0, m1, m2, m3⟩ := v_at (HA.out.below HW.out) hx
        obtain ⟨p', o', rfl, hp', n0, n1, n2, n3⟩ := v_at (HB.out.below HW.out) hy
        have gk : (k : Int) < (a.length : Int) := by omega
        have EN := Lib.hid (eq_next hx hy HE.out)
        clear hx hy HE
        by_cases e : x = y
        · have EQ := neq_is Try.underlying23 (q := false) (by rw [decide_eq_true e]; rfl)
          have N : Hid (a.take (k + 1) = b.take (k + 1)) := EN.out.1 e
          clear EN e
          go_wp2_with fail
          go_quiet (fail)
          have B2 := Lib.hid (below_drewN HW.out nq)
          clear m0 m1 m2 m3 n0 n1 n2 n3 HW
          generalize wr.drewN nq = w2 at B2 ⊢
          go_wp2_with fail
          go_roundw
          case rel => exact ⟨k + 1, by go_num, by omega, N, B2⟩
          case measure => simp [intOf]; omega
        · have EQ := neq_is Try.underlying23 (q := true) (by rw [decide_eq_false e]; rfl)
          have N : Hid (decide (a = b) = false) := decide_eq_false (EN.out.2 e)
          clear EN e
          go_wp2_with fail
          go_quiet (fail)
          have B2 := Lib.hid (below_drewN HW.out nq)
          clear m0 m1 m2 m3 n0 n1 n2 n3 HW
          generalize wr.drewN nq = w2 at B2 ⊢
          go_wp2_with fail
          go_ret
          exact ⟨ret_bool N.out.symm, B2.out⟩
      · have d : decide (k < a.length) = false := by rw [decide_eq_false_iff_not]; exact hlt
        have N : Hid (decide (a = b) = true) := decide_eq_true (eq_take HL.out hlt HE.out)
        clear hlt HE
        go_wp2_with fail
        go_ret
        exact ⟨ret_bool N.out.symm, HW.out⟩
  · have q : ((a.length : Int) != (b.length : Int)) = true := bne_true (by omega)
    have N : Hid (decide (a = b) = false) := decide_eq_false fun e => hab (by rw [e])
    clear hab
    go_enter Try.func35, Try.ntmps35
    go_wp2_with fail
    go_ret
    exact ⟨ret_bool N.out.symm, Below.refl _ _⟩
end Go.Proofs.Ytokcpgpchiikgaa
