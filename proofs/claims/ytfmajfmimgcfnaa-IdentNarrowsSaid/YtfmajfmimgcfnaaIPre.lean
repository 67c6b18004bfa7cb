/-
  Prefix and Sorted of a table: what each call answers; nothing that existed before the call has changed behind it. Condition: a table of at most 1000 different identifiers.
-/
import Derived.Test.YtfmajfmimgcfnaaISrt
namespace Go.Proofs.Ytfmajfmimgcfnaa
open Go.RowKit Go.Sort

theorem prefix_nil (p : ByteArray) (w : World) : Calls Try.prog 28 #[.pointer none, .string p] w fun e w' => e = .returned (.slice none 0 0) ∧ Below w.heap.size w w' := by
  go_enter Try.func28, Try.ntmps28
  go_wp2_with fail
  go_ret
  exact ⟨rfl, (Below.refl _ _).alloc (Nat.le_refl _) _⟩
theorem sorted_nil (w : World) : Calls Try.prog 26 #[.pointer none] w fun e w' => e = .returned (.slice none 0 0) ∧ Below w.heap.size w w' := by
  go_enter Try.func26, Try.ntmps26
  go_wp2_with fail
  refine (prefix_nil _ _).mono ?_
  rintro e w1 ⟨rfl, b1⟩
  go_wp2_with fail
  go_ret
  exact ⟨rfl, b1⟩
set_option maxHeartbeats 4000000 in
theorem prefix_any (w : World) (base : Nat) (t : Value) (ls : List (List UInt8)) (h : Tab w base t ls) (hg : Good5 ls) (hl : ls.length ≤ 1000) (p : ByteArray) :
    Calls Try.prog 28 #[t, .string p] w fun e w' => ∃ v, e = .returned v ∧ LstI w' v (intN (secL ls p.data.toList)) ∧ Below w.heap.size w w' := by
  have HT := Lib.hid h
  have HG := Lib.hid hg
  obtain ⟨tb, mb, nv, rfl, h1, h2, h3, h4, h5, h6, h7⟩ := h
  obtain ⟨A, c, rfl, hcap, hcell⟩ := h5.lst
  have HC := Lib.hid hcell
  have bx := (Below.refl w.heap.size w).alloc (Nat.le_refl _) (.cells #[.pointer (some ⟨tb, 0, none⟩)] 33 (0, 0))
  have m0 := (bx.cell (p := ⟨tb, 0, none⟩) h2).trans h3
  have mb0 : (w.alloc (.cells #[.pointer (some ⟨tb, 0, none⟩)] 33 (0, 0))).cell? ⟨w.heap.size, 0, none⟩ = some (.pointer (some ⟨tb, 0, none⟩)) := by
    rw [cell_of_row _ _ 0 _ _ _ (heap_alloc_new _ _)]; rfl
  have BX := Lib.hid bx
  have MB0 := Lib.hid mb0
  clear h1 h4 h5 h6 h7 hcell hcap hg bx mb0 h3
  go_enter Try.func28, Try.ntmps28
  go_wp2_with fail
  generalize hw0 : w.alloc (.cells #[.pointer (some ⟨tb, 0, none⟩)] 33 (0, 0)) = w0 at m0 BX MB0 ⊢
  have hsz0 : w0.heap.size = w.heap.size + 1 := by rw [← hw0]; simp
  clear hw0
  go_loopw [5, 15] (fun v i wr => ∃ k : Nat, i = .int .i64 k ∧ k ≤ ls.length ∧ Hid (OwnI wr w0.heap.size v (intN (mtch ls p.data.toList k))) ∧ Hid (Below w0.heap.size w0 wr)) (fun _ i _ => ls.length - (intOf i).toNat)
  case atStart => exact ⟨0, rfl, Nat.zero_le _, Lib.hid (OwnI.nil _ _), Lib.hid (Below.refl _ _)⟩
  case round =>
    obtain ⟨k, rfl, hk, ho, hb⟩ := hrel
    by_cases hlt : k < ls.length
    · obtain ⟨b, o, rfl, hbl, hcell⟩ := HC.out (by omega)
      have hc := ((BX.out.trans (hb.out.mono BX.out.size)).cell (p := ⟨b, o + k, none⟩) hbl).trans (hcell k _ (sts_at ls k _ (name_at hlt)))
      have gk : (k : Int) < (ls.length : Int) := by omega
      have hlen := mtch_len ls p.data.toList k
      have hin := intN_len (mtch ls p.data.toList k)
      have hyes := @mtch_yes ls p.data.toList k
      have hno := @mtch_no ls p.data.toList k
      obtain ⟨s, hs, _, hst⟩ := as_str (nameAt ls k)
      rw [hst] at hc
      have P := Lib.hid (fun W => has_any s p W)
      rw [hs] at P
      have hwb := hb.out.size
      clear hcell HC hs hst HT HG
      cases hq : beginsB p.data.toList (nameAt ls k) with
      | false =>
        rw [hq] at P
        have O : Hid (OwnI wr w0.heap.size u5 (intN (mtch ls p.data.toList (k + 1)))) := by
          show OwnI _ _ _ _
          rw [hno hq]
          exact ho.out
        clear hyes hno hq ho hlen hin
        go_wp2_with fail
        refine (P.out _).mono ?_
        rintro e w' ⟨rfl, rfl⟩
        go_wp2_with fail
        go_roundw
        case rel => exact ⟨k + 1, by go_num, by omega, O, hb⟩
        case measure => simp [intOf]; omega
      | true =>
        rw [hq] at P
        have E : Hid (intN (mtch ls p.data.toList (k + 1)) = intN (mtch ls p.data.toList k) ++ [(k : Int)]) := by
          show _ = _
          rw [hyes hq]
          unfold intN
          rw [List.map_append]
          rfl
        clear hyes hno hq
        go_wp2_with fail
        refine (P.out _).mono ?_
        rintro e w' ⟨rfl, rfl⟩
        go_wp2_with (at_builtin; refine app_int _ rfl (.tmp 23) (.tmp 25) rfl w0.heap.size _ (intN (mtch ls p.data.toList k)) k rfl (World.ownsRow.alloc ho.out _) wr.heap.size _ (heap_alloc_new _ _) rfl rfl (by simp; omega) (by omega) ?_; intro v1 w1 own1 b1; have O1 := Lib.hid own1; have BB := Lib.hid (hb.out.trans (((Below.refl _ _).alloc hwb _).trans b1)); clear own1 b1 hlen hin)
        have O : Hid (OwnI w1 w0.heap.size v1 (intN (mtch ls p.data.toList (k + 1)))) := by
          show OwnI _ _ _ _
          rw [E.out]
          exact O1.out
        clear O1 E ho hb
        go_wp2_with fail
        go_roundw
        case rel => exact ⟨k + 1, by go_num, by omega, O, BB⟩
        case measure => simp [intOf]; omega
    · have d : decide (k < ls.length) = false := by rw [decide_eq_false_iff_not]; exact hlt
      obtain rfl : k = ls.length := by omega
      have BW : Hid (Below w.heap.size w wr) := BX.out.trans (hb.out.mono BX.out.size)
      have hlF := mtF_len ls p.data.toList
      have hin := intN_len (mtch ls p.data.toList ls.length)
      rcases ho.out.2 with ⟨rfl, h0⟩ | ⟨g, cap, cur, rfl, hbg, hg, hn, hm, hcs, ht⟩
      · have S0 := Lib.hid (fun W => Try.slices_SortFunc_none (α := Nat) none 0 (.func (.func 39) #[] #[.pointer (some ⟨w.heap.size, 0, none⟩)]) W)
        have R : Hid (secL ls p.data.toList = []) := sec_none (by omega)
        clear HT HG HC ho hb hlt hlF hin h0 BX m0
        go_wp2_with fail
        refine (S0.out _).mono ?_
        rintro e w' ⟨rfl, rfl⟩
        go_wp2_with fail
        go_ret
        exact ⟨_, rfl, by rw [R.out]; exact LstI.nil _, BW.out⟩
      · rw [hin] at hn ht
        have hcs1 : cur.size = cap := by omega
        have hgl : g < wr.heap.size := (Array.getElem?_eq_some_iff.1 hg).1
        have hml := mtch_len ls p.data.toList ls.length
        have hnn : (intN (mtch ls p.data.toList ls.length)).length = (mtF ls p.data.toList).length := by rw [hin, hlF]
        rw [← hlF] at hn hml hin ht
        rw [Nat.mul_one, ← mtF_ints] at ht
        by_cases hz : (mtF ls p.data.toList).length = 0
        · have S0 := Lib.hid (fun W => Try.slices_SortFunc_none (α := Nat) (some ⟨g, 0, none⟩) cap (.func (.func 39) #[] #[.pointer (some ⟨w.heap.size, 0, none⟩)]) W)
          have R : Hid (secL ls p.data.toList = []) := sec_none (by omega)
          have hg0 : LstI wr (.slice (some ⟨g, 0, none⟩) 0 cap) (intN (secL ls p.data.toList)) := by
            rw [R.out]
            exact ⟨_, _, rfl, Nat.zero_le _, fun h => absurd h (by simp), fun h => absurd h (Nat.lt_irrefl _)⟩
          have G0 := Lib.hid hg0
          rw [hnn, hz]
          clear HT HG HC ho hb hlt hlF hin BX m0 hg hn hm hcs ht hcs1 hgl hml hnn hz hg0
          go_wp2_with fail
          refine (S0.out _).mono ?_
          rintro e w' ⟨rfl, rfl⟩
          go_wp2_with fail
          go_ret
          exact ⟨_, rfl, G0.out, BW.out⟩
        · haveI : Inhabited (Fin ls.length) := ⟨⟨0, by omega⟩⟩
          have eg : ∀ args w, (callFunc 39 args).run Try.prog w = .ok (.enter 39 args) w := enters_of Try.func39 (by kernel_rfl) rfl
          have hcmp : CmpReads Try.prog 39 #[.pointer (some ⟨w.heap.size, 0, none⟩)] (encF ls.length) (cfF ls) g 0 (mtF ls p.data.toList).toArray.size wr := by
            intro m os dk _ x y
            have bs : Below w0.heap.size wr (sortWorld (encF ls.length) wr g 0 m dk os) := below_sortW dk hbg (by have := hb.out.size; omega)
            have b0 := hb.out.trans bs
            exact closure_any (sortWorld (encF ls.length) wr g 0 m dk os) w.heap.size base _ ls ((b0.cell (p := ⟨w.heap.size, 0, none⟩) (by show w.heap.size < _; omega)).trans MB0.out) (HT.out.below (BX.out.trans (b0.mono BX.out.size))) x.1 y.1 x.2 y.2
          have S1 := Try.slices_SortFunc_total (encF ls.length) (fun _ => rfl) (cfF ls) (swoF ls) 39 #[.pointer (some ⟨w.heap.size, 0, none⟩)] g 0 cap (mtF ls p.data.toList).toArray wr eg hcmp.lays (holds_own hg ht) hgl (by simp; omega) (totF HG.out)
          have hd : (mtF ls p.data.toList).toArray.size = (mtF ls p.data.toList).length := by simp
          rw [hd] at S1
          have S2 := Lib.hid S1
          have FIN : Hid (∀ m os, LstI (sortWorld (encF ls.length) wr g 0 m (srtF ls p.data.toList).toArray os) (.slice (some ⟨g, 0, none⟩) (mtF ls p.data.toList).length cap) (intN (secL ls p.data.toList)) ∧ Below w.heap.size w (sortWorld (encF ls.length) wr g 0 m (srtF ls p.data.toList).toArray os)) := by
            intro m os
            have hl2 := lst_sorted (m := m) (os := os) (cap := cap) (srtF ls p.data.toList) hg (by rw [srtF_len]; omega) (by rw [srtF_len]; omega)
            rw [srtF_len, srtF_sec HG.out] at hl2
            exact ⟨hl2, BW.out.trans ((below_sortW (srtF ls p.data.toList).toArray (Nat.le_trans (by omega) hbg) (BW.out.size) : Below w.heap.size wr _))⟩
          rw [hnn]
          generalize (mtF ls p.data.toList).length = n at S2 FIN ⊢
          clear HT HG HC ho hb hlt hlF hin BX m0 hg hn hm hcs ht hcs1 hgl hml hnn hz eg hcmp S1 hd
          go_wp2_with fail
          refine (S2.out).mono ?_
          rintro e w' ⟨rfl, m, os, hw⟩
          obtain ⟨f1, f2⟩ := FIN.out m os
          change w' = sortWorld (encF ls.length) wr g 0 m (srtF ls p.data.toList).toArray os at hw
          rw [← hw] at f1 f2
          have F1 := Lib.hid f1
          have F2 := Lib.hid f2
          clear hw f1 f2 S2 FIN
          go_wp2_with fail
          go_ret
          exact ⟨_, rfl, F1.out, F2.out⟩
theorem sorted_any (w : World) (base : Nat) (t : Value) (ls : List (List UInt8)) (h : Tab w base t ls) (hg : Good5 ls) (hl : ls.length ≤ 1000) :
    Calls Try.prog 26 #[t] w fun e w' => ∃ v, e = .returned v ∧ LstI w' v (intN (secL ls [])) ∧ Below w.heap.size w w' := by
  have C := Lib.hid (prefix_any w base t ls h hg hl ⟨#[]⟩)
  obtain ⟨tb, mb, nv, rfl, h1, h2, h3, h4, h5, h6, h7⟩ := h
  clear h1 h2 h3 h4 h5 h6 h7 hg
  go_enter Try.func26, Try.ntmps26
  go_wp2_with fail
  refine (C.out).mono ?_
  rintro e w' ⟨v, rfl, l2, b2⟩
  have L2 := Lib.hid l2
  have B2 := Lib.hid b2
  clear l2 b2 C
  go_wp2_with fail
  go_ret
  exact ⟨_, rfl, L2.out, B2.out⟩
end Go.Proofs.Ytfmajfmimgcfnaa
