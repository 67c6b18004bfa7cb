/-
  The laws' own helpers: spans, equal, normal, same, bounded. Condition: lists of at most 1000000 spans.
-/
import Derived.Test.YtmlmdggfcdakhaaVCont
namespace Go.Proofs.Ytmlmdggfcdakhaa
open Go.RowKit

set_option maxRecDepth 100000 in
set_option maxHeartbeats 4000000 in
theorem spans_any (v : Value) (l : List Sp) (hl : l.length ≤ 1000000) (w : World) (h : LstV w v l) :
    Calls Try.prog 14 #[v] w fun e w' => ∃ v', e = .returned v' ∧ LstV w' v' l ∧ Below w.heap.size w w' := by
  have hh := h
  obtain ⟨A, c, rfl, -⟩ := hh
  have H := Lib.hid h
  clear h
  go_enter Try.func14, Try.ntmps14
  go_wp2_with fail
  go_loopw [3, 4] (fun u i wr => ∃ k : Nat, i = .int .i64 (k : Int) ∧ k ≤ l.length ∧ Hid (OwnV wr w.heap.size u (l.take k)) ∧ Hid (Below w.heap.size w wr)) (fun _ i _ => l.length - (intOf i).toNat)
  case atStart => exact ⟨0, rfl, Nat.zero_le _, Lib.hid (OwnG.nil _ _ _ _ _), Lib.hid (Below.refl _ _)⟩
  case round =>
    obtain ⟨k, rfl, hk, HO, HB⟩ := hrel
    by_cases hlt : k < l.length
    · obtain ⟨s, hs⟩ := at_lt hlt
      obtain ⟨p, o, rfl, hp, m0, m1⟩ := sp_at (H.out.below HB.out) hs
      have gk : (k : Int) < (l.length : Int) := by omega
      have E := Lib.hid (take_at l k s hs)
      have hz := HB.out.size
      have htl : (l.take k).length ≤ k := by rw [List.length_take]; omega
      obtain ⟨x, y⟩ := s
      clear hs
      go_wp2_with fail
      go_region_law (first | (refine stepG_one sc_len sc_one (by decide) Try.underlying29 info_sp rfl (by decide) _ rfl _ _ rfl w.heap.size _ (l.take k) (x, y) rfl (World.ownsRow.alloc HO.out _) wr.heap.size _ (heap_alloc_new _ _) rfl rfl (by simp; omega) (by omega) ?_
                              intro v3 w3 own3 b3 gr3
                              have O3 := Lib.hid own3
                              have B3 : Hid (Below w.heap.size w w3) := (HB.out.alloc hz _).drew.trans b3
                              clear own3 b3 gr3))
      all_goals
        have O4 : Hid (OwnV w3 w.heap.size v3 (l.take (k + 1))) := by
          show OwnV _ _ _ _
          rw [E.out]
          exact O3.out
        clear O3 E HO HB m0 m1
        go_wp2_with fail
        go_roundw
        case rel => exact ⟨k + 1, by go_num, by omega, O4, B3⟩
        case measure => simp [intOf]; omega
    · have d : decide (k < l.length) = false := by rw [decide_eq_false_iff_not]; exact hlt
      have O : Hid (LstV wr u3 l) := by
        have := HO.out
        rw [List.take_of_length_le (by omega)] at this
        exact OwnG.lst this
      clear hlt HO
      go_wp2_with fail
      go_ret
      exact ⟨_, rfl, O.out, HB.out⟩
theorem eq_take {α : Type} {a b : List α} (hab : a.length = b.length) {k : Nat} (hk : ¬ k < a.length) (h : a.take k = b.take k) : a = b := by
  rw [List.take_of_length_le (by omega), List.take_of_length_le (by omega)] at h
  exact h
set_option maxRecDepth 100000 in
set_option maxHeartbeats 4000000 in
theorem equal_any (va vb : Value) (a b : List Sp) (ha : a.length ≤ 1000000) (hb : b.length ≤ 1000000) (w : World) (hA : LstV w va a) (hB : LstV w vb b) : Calls Try.prog 16 #[va, vb] w fun e w' => e = .returned (.bool (decide (a = b))) ∧ Below w.heap.size w w' := by
  have hh := hA
  obtain ⟨A, ca, rfl, -⟩ := hh
  have hh := hB
  obtain ⟨B, cb, rfl, -⟩ := hh
  have HA := Lib.hid hA
  have HB := Lib.hid hB
  clear hA hB
  by_cases hab : a.length = b.length
  · have d0 : ((a.length : Int) != (b.length : Int)) = false := neq_false (by omega)
    have HL := Lib.hid hab
    go_enter Try.func16, Try.ntmps16
    go_wp2_with fail
    go_loopw [5] (fun i wr => ∃ k : Nat, i = .int .i64 (k : Int) ∧ k ≤ a.length ∧ Hid (a.take k = b.take k) ∧ Hid (Below w.heap.size w wr)) (fun i _ => a.length - (intOf i).toNat)
    case atStart => exact ⟨0, rfl, Nat.zero_le _, Lib.hid rfl, Lib.hid (Below.refl _ _)⟩
    case round =>
      obtain ⟨k, rfl, hk, HE, HW⟩ := hrel
      by_cases hlt : k < a.length
      · obtain ⟨s, hs⟩ := at_lt hlt
        obtain ⟨t, ht⟩ := at_lt (show k < b.length by omega)
        obtain ⟨p, o, rfl, hp, m0, m1⟩ := sp_at (HA.out.below HW.out) hs
        obtain ⟨p', o', rfl, hp', n0, n1⟩ := sp_at (HB.out.below HW.out) ht
        have ga : (k : Int) < (a.length : Int) := by omega
        have gb : (k : Int) < (b.length : Int) := by omega
        have EA := Lib.hid (take_at a k s hs)
        have EB := Lib.hid (take_at b k t ht)
        have NE : Hid (s ≠ t → a ≠ b) := fun h e => by
          subst e
          rw [hs] at ht
          exact h (Option.some.inj ht)
        clear hs ht hab
        by_cases h1 : s.1 = t.1
        · have e1 : (s.1 != t.1) = false := neq_false h1
          by_cases h2 : s.2 = t.2
          · have e2 : (s.2 != t.2) = false := neq_false h2
            have E : Hid (a.take (k + 1) = b.take (k + 1)) := by
              show _ = _
              rw [EA.out, EB.out, HE.out, show s = t from Prod.ext h1 h2]
            clear EA EB NE HE h1 h2
            go_wp2_with fail
            go_quiet (fail)
            have B2 := Lib.hid (below_drewN HW.out nq)
            clear m0 m1 n0 n1 HW
            generalize wr.drewN nq = w2 at B2 ⊢
            go_wp2_with fail
            go_roundw
            case rel => exact ⟨k + 1, by go_num, by omega, E, B2⟩
            case measure => simp [intOf]; omega
          · have e2 : (s.2 != t.2) = true := bne_true h2
            have R : Hid (decide (a = b) = false) := decide_eq_false (NE.out fun e => h2 (by rw [e]))
            clear EA EB NE HE h1 h2
            go_wp2_with fail
            go_quiet (fail)
            have B2 := Lib.hid (below_drewN HW.out nq)
            clear m0 m1 n0 n1 HW
            generalize wr.drewN nq = w2 at B2 ⊢
            go_wp2_with fail
            go_ret
            exact ⟨ret_bool R.out.symm, B2.out⟩
        · have e1 : (s.1 != t.1) = true := bne_true h1
          have R : Hid (decide (a = b) = false) := decide_eq_false (NE.out fun e => h1 (by rw [e]))
          clear EA EB NE HE h1
          go_wp2_with fail
          go_quiet (fail)
          have B2 := Lib.hid (below_drewN HW.out nq)
          clear m0 m1 n0 n1 HW
          generalize wr.drewN nq = w2 at B2 ⊢
          go_wp2_with fail
          go_ret
          exact ⟨ret_bool R.out.symm, B2.out⟩
      · have d : decide (k < a.length) = false := by rw [decide_eq_false_iff_not]; exact hlt
        have R : Hid (decide (a = b) = true) := decide_eq_true (eq_take HL.out hlt HE.out)
        clear hlt HE hab
        go_wp2_with fail
        go_ret
        exact ⟨ret_bool R.out.symm, HW.out⟩
  · have d0 : ((a.length : Int) != (b.length : Int)) = true := bne_true (by omega)
    have R : Hid (decide (a = b) = false) := decide_eq_false fun e => hab (by rw [e])
    clear hab
    go_enter Try.func16, Try.ntmps16
    go_wp2_with fail
    go_ret
    exact ⟨ret_bool R.out.symm, Below.refl _ _⟩
end Go.Proofs.Ytmlmdggfcdakhaa
