/-
  Instances of the reference of package frequency: the starts of a trip put in order by insertion; nothing that existed before the call has changed behind it. Condition: lists of at most 1000 frequencies.
-/
import Derived.Test.YtahnaidkobodaaaHzU
import Derived.Test.YtahnaidkobodaaaOwnW
namespace Go.Proofs.Ytahnaidkobodaaa
open Go.RowKit

/-- What is said of the list that is read while another one grows: its elements, and that it lies apart. -/
def SuOk (wr : World) (su : Value) (S : List Int) (o : Value) : Prop :=
  S = [] ∧ su = .slice none 0 0 ∨ ∃ gs c, su = .slice (some ⟨gs, 0, none⟩) S.length c ∧ (∀ (j : Nat) x, S[j]? = some x → wr.cell? ⟨gs, j, none⟩ = some (.int .i64 x)) ∧ gs < wr.heap.size ∧ o.ownBlock ≠ some gs
theorem own_block_lt {w : World} {base : Nat} {v : Value} {l : List Int} (h : OwnI w base v l) {g : Nat} (hg : v.ownBlock = some g) : g < w.heap.size := by
  rcases h.low with ⟨rfl, _⟩ | ⟨g', c, rfl, _, hl, _⟩
  · simp [Value.ownBlock] at hg
  · obtain rfl : g' = g := by simpa [Value.ownBlock] using hg
    exact hl
theorem SuOk.start {w w1 : World} {base : Nat} {su o : Value} {S P : List Int} (h : OwnI w1 w.heap.size su S) (ho : OwnI w base o P) : SuOk w1 su S o := by
  rcases id h.low with ⟨h1, h2⟩ | ⟨g, c, rfl, hb, hl, hc⟩
  · exact .inl ⟨h2, h1⟩
  · refine .inr ⟨g, c, rfl, fun j x hj => ?_, hl, fun e => ?_⟩
    · exact (OwnI.at h hj).1
    · have := own_block_lt ho e
      omega
theorem SuOk.at {wr : World} {su o : Value} {S : List Int} (h : SuOk wr su S o) {j : Nat} {x : Int} (hj : S[j]? = some x) : ∃ gs c, su = .slice (some ⟨gs, 0, none⟩) S.length c ∧ wr.cell? ⟨gs, j, none⟩ = some (.int .i64 x) := by
  rcases h with ⟨rfl, _⟩ | ⟨gs, c, rfl, hc, _, _⟩
  · simp at hj
  · exact ⟨gs, c, rfl, hc j x hj⟩
/-- Behind an append to the other one. -/
theorem SuOk.grown {wr w' : World} {su o o' : Value} {S : List Int} {tmp : Obj} (h : SuOk wr su S o) (hg : (wr.alloc tmp).grownBy w' o.ownBlock) (hw : ∀ g, o'.ownBlock = some g → o.ownBlock = some g ∨ g = (wr.alloc tmp).heap.size) : SuOk w' su S o' := by
  rcases h with h | ⟨gs, c, rfl, hc, hl, hn⟩
  · exact .inl h
  · have hb : w'.heap[gs]? = wr.heap[gs]? := (hg.block gs (by simp; omega) (fun e => hn e.symm)).trans (Go.heap_alloc_old _ _ hl)
    have hl' : gs < w'.heap.size := by
      rcases Nat.lt_or_ge gs w'.heap.size with h | h
      · exact h
      · rw [Array.getElem?_eq_none h] at hb
        have := (Array.getElem?_eq_some_iff.1 (show wr.heap[gs]? = some wr.heap[gs] from Array.getElem?_eq_getElem hl))
        rw [Array.getElem?_eq_getElem hl] at hb
        cases hb
    refine .inr ⟨gs, c, rfl, fun j x hj => ?_, hl', fun e => ?_⟩
    · rw [← hc j x hj]
      unfold World.cell?
      simp only [hb]
    · rcases hw gs e with h1 | h1
      · exact hn h1
      · simp at h1
        omega
/-- Behind a region that draws. -/
theorem SuOk.drawn {wr w4 : World} {su o : Value} {S : List Int} (h : SuOk wr su S o) (b : Below wr.heap.size wr w4) : SuOk w4 su S o := by
  rcases h with h | ⟨gs, c, rfl, hc, hl, hn⟩
  · exact .inl h
  · exact .inr ⟨gs, c, rfl, fun j x hj => (b.cell (p := ⟨gs, j, none⟩) hl).trans (hc j x hj), Nat.lt_of_lt_of_le hl b.size, hn⟩
/-- Behind a store into the other one. -/
theorem SuOk.stored {wr : World} {su : Value} {S : List Int} {g n c : Nat} (h : SuOk wr su S (.slice (some ⟨g, 0, none⟩) n c)) (i : Nat) (y : Value) : SuOk (wr.setCell ⟨g, i, none⟩ y) su S (.slice (some ⟨g, 0, none⟩) n c) := by
  rcases h with h | ⟨gs, c', rfl, hc, hl, hn⟩
  · exact .inl h
  · have hne : gs ≠ g := fun e => hn (by rw [e]; rfl)
    have hb : (wr.setCell ⟨g, i, none⟩ y).heap[gs]? = wr.heap[gs]? := Below.heap_setCell _ _ _ gs hne
    refine .inr ⟨gs, c', rfl, fun j x hj => ?_, by simp [World.setCell]; omega, hn⟩
    rw [← hc j x hj]
    unfold World.cell?
    simp only [hb]
set_option maxRecDepth 100000 in
set_option maxHeartbeats 8000000 in
theorem rinst_any (vl : Value) (l : List Fq) (hl : l.length ≤ 1000) (tr : Int) (w : World) (h : LstF w vl l) :
    Calls Try.prog 18 #[vl, .int .i64 tr] w fun e w' => ∃ u, e = .returned u ∧ OwnI w' w.heap.size u (srtI (insF tr l)) ∧ Below w.heap.size w w' := by
  have H := Lib.hid h
  obtain ⟨A, n, rfl, -, -, -⟩ := h
  go_enter Try.func18, Try.ntmps18
  go_wp2_with fail
  go_loopw [5, 6] (fun o i wr => ∃ k : Nat, i = .int .i64 k ∧ k ≤ l.length ∧ Hid (OwnI wr w.heap.size o (srtI (insF tr (l.take k)))) ∧ Hid (Below w.heap.size w wr)) (fun _ i _ => l.length - (intOf i).toNat)
  case atStart => exact ⟨0, rfl, Nat.zero_le _, Lib.hid (by rw [show insF tr (l.take 0) = [] from rfl, srtI_nil]; exact OwnI.nil _ _), Lib.hid (Below.refl _ _)⟩
  case round =>
    obtain ⟨k, rfl, hk, HO, HB⟩ := hrel
    by_cases hlt : k < l.length
    · obtain ⟨⟨t, a, b, v⟩, hf⟩ := at_lt hlt
      obtain ⟨p, o, rfl, hp, m0, m1, m2, m3⟩ := four_at (H.out.below HB.out) hf
      have gk : (k : Int) < (l.length : Int) := by omega
      have hlen : (insF tr (l.take k)).length ≤ 1000000000 := by
        have := ins_le tr (l.take k)
        have h2 : (l.take k).length ≤ 1000 := by rw [List.length_take]; omega
        omega
      by_cases ht : t = tr
      · have g := neq_false ht
        have N := Lib.hid (ins_yes (t := tr) hf ht)
        have C := Lib.hid (rsts_any t a b v wr)
        have SL := sts_le (t, a, b, v)
        generalize insF tr (l.take k) = P at HO N hlen
        generalize stsF (t, a, b, v) = S at N C SL
        clear hf hp ht
        go_wp2_with fail
        refine C.out.mono ?_
        rintro e w1 ⟨su, rfl, o1, b1⟩
        have SU : Hid (SuOk w1 su S u5) := SuOk.start o1 HO.out
        have O1 : Hid (OwnI w1 w.heap.size u5 (srtI (P ++ S.take 0))) := by
          show OwnI _ _ _ _
          rw [List.take_zero, List.append_nil]
          exact HO.out.below b1
        have B1 : Hid (Below w.heap.size w w1) := HB.out.trans (b1.mono HB.out.size)
        obtain ⟨A1, c1, rfl⟩ := own_shape' o1
        clear o1 b1 C HO HB m0 m1 m2 m3
        go_wp2_with fail
        go_loopw [5, 8] (fun o j wr => ∃ q : Nat, j = .int .i64 q ∧ q ≤ S.length ∧ Hid (OwnI wr w.heap.size o (srtI (P ++ S.take q))) ∧ Hid (SuOk wr (.slice A1 S.length c1) S o) ∧ Hid (Below w.heap.size w wr)) (fun _ j _ => S.length - (intOf j).toNat)
        case atStart => exact ⟨0, rfl, Nat.zero_le _, O1, SU, B1⟩
        case round =>
          clear O1 SU B1
          obtain ⟨q, rfl, hq, HO, HSU, HB⟩ := hrel
          by_cases hqt : q < S.length
          · obtain ⟨x, hx⟩ := at_lt hqt
            obtain ⟨gs, c2, e2, r0⟩ := HSU.out.at hx
            cases e2
            have gq : (q : Int) < (S.length : Int) := by omega
            have hz := HB.out.size
            have T := Lib.hid (show S.take (q + 1) = S.take q ++ [x] from take_at S q x hx)
            have hol : (P ++ S.take q).length ≤ 2000000000 := by rw [List.length_append, List.length_take]; omega
            have hsl : (srtI (P ++ S.take q)).length ≤ 2000000000 := by rw [srtI_len]; exact hol
            obtain ⟨old, hold⟩ : ∃ old, srtI (P ++ S.take q) = old := ⟨_, rfl⟩
            rw [hold] at HO hsl
            have HOLD := Lib.hid hold
            clear hx hold hol
            go_wp2_with (at_builtin; refine app_intW _ rfl (.tmp 35) (.tmp 40) rfl w.heap.size _ old x rfl (OwnI.below HO.out ((Below.refl _ _).alloc (Nat.le_refl _) _)) _ _ (heap_alloc_new _ _) rfl rfl (by simp; omega) (by omega) ?_; intro v2 w2 o2 g2 w2w; refine Hid.out ?_)
            have S2 : Hid (SuOk w2 (.slice (some ⟨gs, 0, none⟩) S.length c1) S v2) := SuOk.grown HSU.out g2 w2w
            have B2 : Hid (Below w.heap.size w w2) := (HB.out.alloc hz _).trans (own_grown (OwnI.below HO.out ((Below.refl _ _).alloc (Nat.le_refl _) _)) g2 (by simp; omega))
            have o2' := o2
            rw [← insS_start] at o2'
            obtain ⟨n2, hn2⟩ : ∃ n2, (old ++ [x]).length = n2 := ⟨_, rfl⟩
            obtain ⟨A2, c3, rfl, -, hA2⟩ := own_shape o2
            rw [hn2] at o2' S2 hA2 ⊢
            have hno : old.length + 1 = n2 := by rw [← hn2, List.length_append]; rfl
            obtain ⟨g3, rfl, -, -, -⟩ := hA2 (by omega)
            have O2 := Lib.hid o2'
            have hn3 : (n2 : Int) - 1 = (old.length : Int) := by omega
            have hw3 : IntKind.i64.wrap (old.length : Int) = (old.length : Int) := IntWalk.i64_in _ (by omega)
            have HN := Lib.hid hno
            clear o2 o2' g2 w2w HO HSU HB r0 hn2 hA2
            refine Lib.hid ?_
            go_wp2_with fail
            go_loopw [9] (fun p wr => ∃ m : Nat, p = .int .i64 m ∧ m ≤ old.length ∧ Hid (OwnI wr w.heap.size (.slice (some ⟨g3, 0, none⟩) n2 c3) (insS old x m)) ∧ Hid (∀ y ∈ old.drop m, x ≤ y) ∧ Hid (SuOk wr (.slice (some ⟨gs, 0, none⟩) S.length c1) S (.slice (some ⟨g3, 0, none⟩) n2 c3)) ∧ Hid (Below w.heap.size w wr)) (fun p _ => (intOf p).toNat)
            case atStart => exact ⟨old.length, by go_num, Nat.le_refl _, O2, Lib.hid (fun y hy => by rw [List.drop_length] at hy; cases hy), S2, B2⟩
            case round =>
              clear O2 S2 B2 hn3 hw3
              obtain ⟨m, rfl, hm, HO3, HD, HSU3, HB3⟩ := hrel
              by_cases h0 : m = 0
              · subst h0
                have D0 := Lib.hid (insS_done (p := P ++ S.take q) (x := x) (k := 0) (by rw [HOLD.out]; exact HD.out) (.inl rfl))
                rw [HOLD.out] at D0
                go_wp2_with fail
                go_quiet (fail)
                have bq := below_drewN (Below.refl wr.heap.size wr) nq
                have hz4 : (wr.drewN nq).heap.size = wr.heap.size := rfl
                generalize wr.drewN nq = w4 at bq hz4 ⊢
                have O4 := Lib.hid (HO3.out.below bq)
                have E4 : Hid (OwnI w4 w.heap.size (.slice (some ⟨g3, 0, none⟩) n2 c3) (srtI (P ++ S.take (q + 1)))) := by
                  show OwnI _ _ _ _
                  rw [T.out, ← List.append_assoc, ← D0.out]
                  exact O4.out
                have S4 : Hid (SuOk w4 (.slice (some ⟨gs, 0, none⟩) S.length c1) S (.slice (some ⟨g3, 0, none⟩) n2 c3)) := SuOk.drawn HSU3.out bq
                have B4 : Hid (Below w.heap.size w w4) := HB3.out.trans (bq.mono HB3.out.size)
                clear bq O4 HO3 HSU3 HB3 HD
                go_wp2_with fail
                go_roundw
                case rel => exact ⟨q + 1, by go_num, by omega, E4, S4, B4⟩
                case measure => simp [intOf]; omega
              · obtain ⟨m1, hm1⟩ : ∃ m1, m = m1 + 1 := ⟨m - 1, by omega⟩
                obtain ⟨y, hy⟩ := at_lt (l := old) (k := m1) (by omega)
                have hil := insS_len old x m
                rw [HN.out] at hil
                have e1 : (m : Int) - 1 = (m1 : Int) := by omega
                have e2 : IntKind.i64.wrap (m1 : Int) = (m1 : Int) := IntWalk.i64_in _ (by omega)
                have g1 : (0 : Int) < (m : Int) := by omega
                have g2 : 0 < m := by omega
                have g3' : (m : Int) < (n2 : Int) := by have := HN.out; omega
                have g4 : (m1 : Int) < (n2 : Int) := by have := HN.out; omega
                have K1 := OwnI.atn hil HO3.out (insS_at hm)
                have K2 := OwnI.atn hil HO3.out (by rw [hm1]; exact insS_before hy)
                obtain ⟨c1', -⟩ := K1
                obtain ⟨c2', -⟩ := K2
                have HY := Lib.hid hy
                have HM1 := Lib.hid hm1
                by_cases hxy : x < y
                · have N1 : Hid (∀ z ∈ old.drop m1, x ≤ z) := insS_go (by rw [← hm1]; exact HD.out) hy (by omega)
                  clear hy hm1
                  go_wp2_with fail
                  go_quiet (fail)
                  have bq := below_drewN (Below.refl wr.heap.size wr) nq
                  have hz4 : (wr.drewN nq).heap.size = wr.heap.size := rfl
                  generalize wr.drewN nq = w4 at bq hz4 ⊢
                  have O4 := Lib.hid (HO3.out.below bq)
                  obtain ⟨r1, f1⟩ := OwnI.atn hil O4.out (insS_at hm)
                  obtain ⟨r2, f2⟩ := OwnI.atn hil O4.out (x := y) (i := m1) (by rw [HM1.out]; exact insS_before HY.out)
                  obtain ⟨w5, hw5⟩ : ∃ W, w4.setCell ⟨g3, m, none⟩ (.int .i64 y) = W := ⟨_, rfl⟩
                  have O5 : Hid (OwnI w5 w.heap.size (.slice (some ⟨g3, 0, none⟩) n2 c3) ((insS old x m).set m y)) := by
                    show OwnI _ _ _ _
                    rw [← hw5]
                    exact OwnI.putn hil O4.out m y
                  obtain ⟨r5, f5⟩ := OwnI.atn (by rw [List.length_set]; exact hil) O5.out (i := m1) (x := y) (by rw [List.getElem?_set_ne (by have := HM1.out; omega), HM1.out]; exact insS_before HY.out)
                  have O6 : Hid (OwnI (w5.setCell ⟨g3, m1, none⟩ (.int .i64 x)) w.heap.size (.slice (some ⟨g3, 0, none⟩) n2 c3) (insS old x m1)) := by
                    have := OwnI.putn (by rw [List.length_set]; exact hil) O5.out m1 x
                    have sw := insS_swap (x := x) HY.out
                    rw [← HM1.out] at sw
                    rw [sw] at this
                    exact this
                  have S6 : Hid (SuOk (w5.setCell ⟨g3, m1, none⟩ (.int .i64 x)) (.slice (some ⟨gs, 0, none⟩) S.length c1) S (.slice (some ⟨g3, 0, none⟩) n2 c3)) := by
                    rw [← hw5]
                    exact SuOk.stored (SuOk.stored (SuOk.drawn HSU3.out bq) m _) m1 _
                  have hg3 : w.heap.size ≤ g3 := by
                    rcases O4.out.low with ⟨h1, _⟩ | ⟨g', c', h1, h2, _, _⟩
                    · cases h1
                    · cases h1; exact h2
                  have B6 : Hid (Below w.heap.size w (w5.setCell ⟨g3, m1, none⟩ (.int .i64 x))) := by
                    rw [← hw5]
                    exact ((HB3.out.trans (bq.mono HB3.out.size)).setCell (p := ⟨g3, m, none⟩) hg3 _).setCell (p := ⟨g3, m1, none⟩) hg3 _
                  clear bq O4 HO3 HSU3 HB3 HD O5 hg3 c1' c2' hil
                  go_wp2_with fail
                  go_roundw
                  case rel => exact ⟨m1, rfl, by have := HM1.out; omega, O6, N1, S6, B6⟩
                  case measure => simp [intOf]; have := HM1.out; omega
                · have dxy : decide (x < y) = false := decide_eq_false hxy
                  have D0 := Lib.hid (insS_done (p := P ++ S.take q) (x := x) (k := m) (by rw [HOLD.out]; exact HD.out) (.inr ⟨y, by rw [HOLD.out, hm1, Nat.add_sub_cancel]; exact hy, by omega⟩))
                  rw [HOLD.out] at D0
                  clear hy hm1 hxy
                  go_wp2_with fail
                  go_quiet (fail)
                  have bq := below_drewN (Below.refl wr.heap.size wr) nq
                  have hz4 : (wr.drewN nq).heap.size = wr.heap.size := rfl
                  generalize wr.drewN nq = w4 at bq hz4 ⊢
                  have O4 := Lib.hid (HO3.out.below bq)
                  clear c1' c2' hil
                  have E4 : Hid (OwnI w4 w.heap.size (.slice (some ⟨g3, 0, none⟩) n2 c3) (srtI (P ++ S.take (q + 1)))) := by
                    show OwnI _ _ _ _
                    rw [T.out, ← List.append_assoc, ← D0.out]
                    exact O4.out
                  have S4 : Hid (SuOk w4 (.slice (some ⟨gs, 0, none⟩) S.length c1) S (.slice (some ⟨g3, 0, none⟩) n2 c3)) := SuOk.drawn HSU3.out bq
                  have B4 : Hid (Below w.heap.size w w4) := HB3.out.trans (bq.mono HB3.out.size)
                  clear bq O4 HO3 HSU3 HB3 HD
                  go_wp2_with fail
                  go_roundw
                  case rel => exact ⟨q + 1, by go_num, by omega, E4, S4, B4⟩
                  case measure => simp [intOf]; omega
          · have O := Lib.hid HO.out
            rw [List.take_of_length_le (by omega), ← N.out] at O
            have d : decide (q < S.length) = false := by rw [decide_eq_false_iff_not]; exact hqt
            clear hqt HO HSU
            go_wp2_with fail
            go_roundw
            case rel => exact ⟨k + 1, by go_num, by omega, O, HB⟩
            case measure => simp [intOf]; omega
      · have g := bne_true ht
        have N := Lib.hid (ins_no (t := tr) hf ht)
        have O : Hid (OwnI wr w.heap.size u5 (srtI (insF tr (l.take (k + 1))))) := by
          show OwnI _ _ _ _
          rw [N.out]
          exact HO.out
        clear hf hp ht N HO hlen
        go_wp2_with fail
        go_roundw
        case rel => exact ⟨k + 1, by go_num, by omega, O, HB⟩
        case measure => simp [intOf]; omega
    · have O := Lib.hid HO.out
      rw [List.take_of_length_le (by omega)] at O
      have d : decide (k < l.length) = false := by rw [decide_eq_false_iff_not]; exact hlt
      clear hlt HO
      go_wp2_with fail
      go_ret
      exact ⟨_, rfl, O.out, HB.out⟩
end Go.Proofs.Ytahnaidkobodaaa
