/-
  The code's Groups of trips: what the call answers; nothing that existed before the call has changed behind it. Condition: lists of fewer than 2^40 trips with at most 2^35 calls each; the table that numerals are made with.
-/
import Derived.Test.YtfbobfejnbhjbaaDoorTrGs
import Derived.Test.YtfbobfejnbhjbaaDoorTrTxt
namespace Go.Proofs.YtfbobfejnbhjbaaDoor
open Go.RowKit

theorem base_ne {v : Value} {b base : Nat} (h : ∀ g, v.ownBlock = some g → base ≤ g) (hb : b < base) : some b ≠ v.ownBlock := fun e => by have := h b e.symm; omega
/-- Two ways to compare strings. -/
theorem idx_same (l : List (List UInt8)) (x : List UInt8) : @List.idxOf _ instBEqOfDecidableEq x l = l.idxOf x := by
  unfold List.idxOf
  congr 1
  funext y
  rw [Bool.eq_iff_iff]
  simp
set_option maxRecDepth 100000 in
set_option maxHeartbeats 8000000 in
theorem kgrp_any (v : Value) (l : List Tp) (hl : l.length ≤ 1099511627000) (hc : ∀ x ∈ l, x.2.2.2.2.2.length ≤ 34359738368) (w : World) (hg : GoodP w) (h : LstTp w v l) :
    Calls Tryd.prog 22 #[v] w fun e w' => ∃ u, e = .returned u ∧ LL w' u (grp (l.map ptT)) ∧ Below w.heap.size w w' := by
  have H := Lib.hid h
  have HG := Lib.hid hg
  have HC := Lib.hid hc
  obtain ⟨⟨A, n, rfl, -, -, -⟩, -⟩ := h
  obtain ⟨ks, hks⟩ : ∃ ks, l.map kyT = ks := ⟨_, rfl⟩
  have HK : Hid (∀ (k : Nat) x, l[k]? = some x → ks[k]? = some (kyT x)) := fun k x hx => by rw [← hks]; exact ky_at hx
  have EK : Hid (ks.length = l.length) := by show _ = _; rw [← hks, List.length_map]
  have EG : Hid (grp ks = grp (l.map ptT)) := by show _ = _; rw [← hks]; exact grp_keys l
  have hmm := @run_makeMap Tryd.prog
  rw [← EG.out]
  clear hks hg hc EG
  go_enter Tryd.func22, Tryd.ntmps22
  go_wp2_with fail
  clear hmm
  go_loopw [3, 13] (fun o i wr => ∃ (k : Nat) (ts : List SlT), i = .int .i64 k ∧ k ≤ l.length ∧ Hid (Gs wr (w.heap.size + 1) o ts (grp (ks.take k))) ∧ Hid (MapI wr w.heap.size (uq (ks.take k))) ∧ Hid (Below w.heap.size w wr)) (fun _ i _ => l.length - (intOf i).toNat)
  case atStart => exact ⟨0, [], rfl, Nat.zero_le _, Lib.hid (Gs.nil _ _), Lib.hid (MapI.made w), Lib.hid ((Below.refl _ _).alloc (Nat.le_refl _) _)⟩
  case round =>
    obtain ⟨k, ts, rfl, hk, HS, HM, HB⟩ := hrel
    by_cases hlt : k < l.length
    · obtain ⟨⟨id, r, c, f, v, cl⟩, hx⟩ := at_lt hlt
      obtain ⟨nm, hnm⟩ : ∃ nm, str id = nm := ⟨_, rfl⟩
      obtain ⟨b, o, B, m, rfl, rfl, hb, r0, r1, r2, r3, r4, lc, -, ok⟩ := trip_at (H.out.below HB.out) hx hnm
      obtain ⟨w7, hw7⟩ : ∃ W, wr.alloc (.cells #[.string nm, .int .i64 r, .int .i64 c, .bool f, .slice B cl.length m] 39 (0, 0)) = W := ⟨_, rfl⟩
      obtain ⟨b7, p0, p1, p2, p3, p4, s7⟩ := box_tp hw7
      have gk : (k : Int) < (l.length : Int) := by omega
      have hcl : cl.length ≤ 34359738368 := HC.out _ (List.mem_iff_getElem?.2 ⟨k, hx⟩)
      have B7 : Hid (Below w.heap.size w w7) := HB.out.trans (b7.mono HB.out.size)
      have S7 := Lib.hid (HS.out.below b7)
      have M7 := Lib.hid (HM.out.below b7)
      have T := Lib.hid (ktext_any nm r c f (.slice B cl.length m) cl hcl ok w7 (HG.out.below B7.out) (lc.below b7))
      obtain ⟨ky, hky⟩ : ∃ ky, txP (patV cl) = ky := ⟨_, rfl⟩
      have KX : Hid (ks[k]? = some ky) := by show _ = _; rw [← hky]; exact HK.out k _ hx
      have hsz : (str ky).size ≤ 4611686018427387904 := by rw [size_str, ← hky]; have := txP_len cl ok; omega
      rw [hky] at T
      obtain ⟨t, ht⟩ : ∃ t, str ky = t := ⟨_, rfl⟩
      have htl : t.data.toList = ky := by rw [← ht]
      rw [ht] at T hsz
      clear hx hnm hb lc ok b7 HB HS HM hky ht hcl HC HK
      go_wp2_with fail
      refine T.out.mono ?_
      rintro e w8 ⟨rfl, b8⟩
      have B8 : Hid (Below w.heap.size w w8) := B7.out.trans (b8.mono B7.out.size)
      have S8 := Lib.hid (S7.out.below b8)
      have M8 := Lib.hid (M7.out.below b8)
      have lk := M8.out.look t ky htl hsz
      have z8 := B8.out.size
      have hul : (uq (ks.take k)).length ≤ k := Nat.le_trans (uq_le _) (by rw [List.length_take]; omega)
      have htn : ts.length = (uq (ks.take k)).length := by rw [S8.out.len, grp_len]
      clear b8 B7 S7 M7 T p0 p1 p2 p3 p4 r0 r1 r2 r3 r4 hw7 s7
      by_cases hm : ky ∈ uq (ks.take k)
      · unfold idxOf at lk
        rw [if_pos hm, decide_eq_true hm] at lk
        obtain ⟨e1, e2, e3⟩ := grp_old KX.out hm
        rw [idx_same] at e2 e3
        have hpl := List.idxOf_lt_length_iff.2 hm
        obtain ⟨p, hp⟩ : ∃ p, (uq (ks.take k)).idxOf ky = p := ⟨_, rfl⟩
        rw [hp] at lk e2 e3 hpl
        obtain ⟨tt, ht, -⟩ := S8.out.at e2
        obtain ⟨g, hg⟩ : ∃ g, ixs (isK ky) (ks.take k) = g := ⟨_, rfl⟩
        have hgl : g.length ≤ k := by rw [← hg]; exact Nat.le_trans (ix_le _ _) (by rw [List.length_take]; omega)
        rw [hg] at e2 e3
        rcases OwnG.low S8.out.row with ⟨-, h0⟩ | ⟨gb, gc, rfl, -, -, hgc⟩
        · rw [h0] at ht
          cases ht
        have gp : (p : Int) < (ts.length : Int) := by omega
        have gp' : p < ts.length := by omega
        have E1 := Lib.hid e1
        have E3 := Lib.hid e3
        have hul' : ts.length ≤ 1099511627000 := by omega
        clear hm hp hg e1 e3 htn hul hpl KX
        obtain ⟨q0, f0⟩ := OwnL.atn rfl S8.out.row ht
        have HO := Lib.hid (S8.out.rows _ _ _ ht e2)
        have gn : (g).length + 1 ≤ 1099511627776 := by omega
        have HT := Lib.hid ht
        have E2 := Lib.hid e2
        have Z := Lib.hid z8
        clear ht e2 f0
        go_wp2_with (at_builtin; refine app_intW _ rfl _ _ rfl (w.heap.size + 1) (svV tt) (g) (k : Int) rfl (OwnI.below HO.out ((Below.refl _ _).alloc (Nat.le_refl _) _)) _ _ (heap_alloc_new _ _) rfl rfl (by have := M8.out.lt; simp; omega) gn ?_; intro v2 w2 o2 g2 wh2; refine Hid.out ?_)
        obtain ⟨A2, c2, rfl⟩ := own_shape' o2
        rw [show (g ++ [(k : Int)]).length = g.length + 1 by simp] at o2 wh2
        have S2 := Lib.hid (Gs.step (S8.out.below ((Below.refl _ _).alloc (Nat.le_refl _) _)) rfl HT.out E2.out (t' := (A2, g.length + 1, c2)) o2 g2 wh2)
        obtain ⟨q1, f1⟩ := OwnL.atn rfl ((S8.out.below ((Below.refl _ _).alloc (Nat.le_refl _) _)).stay HT.out E2.out g2) HT.out
        have hgb : w.heap.size + 1 ≤ gb := (own_type S8.out.row rfl).1
        have M2 := Lib.hid (((M8.out.below ((Below.refl _ _).alloc (Nat.le_refl _) _)).kept g2 (base_ne (fun x hx => (own_type HO.out hx).1) (Nat.lt_succ_self _))).setCell (a := ⟨gb, p, none⟩) (by show w.heap.size ≠ gb; omega) (svV (A2, g.length + 1, c2)))
        have B2 : Hid (Below w.heap.size w (w2.setCell ⟨gb, p, none⟩ (svV (A2, g.length + 1, c2)))) := ((B8.out.alloc B8.out.size _).trans ((own_grown (OwnI.below HO.out ((Below.refl _ _).alloc (Nat.le_refl _) _)) g2 (by have := M8.out.lt; simp; omega)).mono (Nat.le_succ _))).setCell (by show w.heap.size ≤ gb; omega) _
        rw [← E3.out] at S2
        rw [← E1.out] at M2
        clear o2 g2 wh2 HO HT E2 S8 M8 B8 q0 hgb gn Z
        refine Lib.hid ?_
        go_wp2_with fail
        go_roundw
        case rel => exact ⟨k + 1, _, by go_num, by omega, S2, M2, B2⟩
        case measure => simp [intOf]; omega
      · unfold idxOf at lk
        rw [if_neg hm, decide_eq_false hm] at lk
        obtain ⟨e1, e3⟩ := grp_new KX.out hm
        obtain ⟨A8, c8, rfl, -, -, -⟩ := ownK_shape S8.out.row
        have HN := Lib.hid hm
        have HTN := Lib.hid htn
        have hul' : ts.length ≤ 1099511627000 := by omega
        have E1 := Lib.hid e1
        have E3 := Lib.hid e3
        have hb1 : (uq (ks.take k)).length < 1099511627776 := by omega
        clear hm htn hul e1 e3 KX
        go_wp2_with (at_mapUpdate; refine put_int _ rfl _ _ _ rfl w.heap.size (uq (ks.take k)) rfl M8.out t ky htl hsz rfl ts.length HTN.out rfl HN.out hb1 ?_; intro w9 m9 g9; refine Hid.out ?_)
        have S9 := Lib.hid (S8.out.other g9 (Nat.lt_succ_self _))
        have M9 := Lib.hid m9
        have B9 : Hid (Below w.heap.size w w9) := B8.out.grown g9 B8.out.size (fun j hj => by cases hj; exact Nat.le_refl _)
        clear m9 g9 S8 M8 B8 lk z8 HN hb1
        refine Lib.hid ?_
        go_wp2_with (at_builtin; refine appG_one sv_len sv_one (by decide) Tryd.underlying46 info_sl rfl (by decide) _ rfl _ _ rfl (w.heap.size + 1) _ ts ((none, 0, 0) : SlT) rfl (OwnG.below S9.out.row ((Below.refl _ _).alloc (Nat.le_refl _) _)) _ _ (heap_alloc_new _ _) rfl rfl (by have := M9.out.lt; simp; omega) (by omega) ?_; intro v3 w3 o3 b3 g3 wh3; refine Hid.out ?_)
        have S3 := Lib.hid ((S9.out.below ((Below.refl _ _).alloc (Nat.le_refl _) _)).grow o3 g3)
        have M3 := Lib.hid ((M9.out.below ((Below.refl _ _).alloc (Nat.le_refl _) _)).kept g3 (base_ne (fun x hx => (own_type S9.out.row hx).1) (Nat.lt_succ_self _)))
        have B3 : Hid (Below w.heap.size w w3) := (B9.out.alloc B9.out.size _).trans (b3.mono (Nat.le_succ _))
        have z8 := B3.out.size
        clear o3 b3 g3 wh3 S9 M9 B9
        refine Lib.hid ?_
        have ht : (ts ++ [((none, 0, 0) : SlT)])[ts.length]? = some (none, 0, 0) := by rw [List.getElem?_append_right (Nat.le_refl _), Nat.sub_self]; rfl
        have e2 : (grp (ks.take k) ++ [[]])[ts.length]? = some [] := by rw [HTN.out, ← grp_len, List.getElem?_append_right (Nat.le_refl _), Nat.sub_self]; rfl
        have ES : Hid ((grp (ks.take k) ++ [[]]).set ts.length ([] ++ [(k : Int)]) = grp (ks.take (k + 1))) := by
          show _ = _
          rw [E3.out, HTN.out, ← grp_len, List.set_append_right _ _ (Nat.le_refl _), Nat.sub_self]
          rfl
        rcases OwnG.low S3.out.row with ⟨-, h0⟩ | ⟨gb, gc, rfl, -, -, hgc⟩
        · simp at h0
        have hln : (ts ++ [((none, 0, 0) : SlT)]).length = ts.length + 1 := by simp
        have gp : (ts.length : Int) < ((ts ++ [((none, 0, 0) : SlT)]).length : Int) := by omega
        have gp' : ts.length < (ts ++ [((none, 0, 0) : SlT)]).length := by omega
        generalize ts ++ [((none, 0, 0) : SlT)] = us at *
        generalize ts.length = p at *
        clear hln E3 HTN
        obtain ⟨q0, f0⟩ := OwnL.atn rfl S3.out.row ht
        have HO := Lib.hid (S3.out.rows _ _ _ ht e2)
        have gn : ([] : List Int).length + 1 ≤ 1099511627776 := by decide
        have q0 : w3.cell? ⟨gb, p, none⟩ = some (.slice none 0 0) := q0
        have HT := Lib.hid ht
        have E2 := Lib.hid e2
        have Z := Lib.hid z8
        clear ht e2 f0
        go_wp2_with (at_builtin; refine app_intW _ rfl _ _ rfl (w.heap.size + 1) (.slice none 0 0) ([]) (k : Int) rfl (OwnI.below HO.out ((Below.refl _ _).alloc (Nat.le_refl _) _)) _ _ (heap_alloc_new _ _) rfl rfl (by have := M3.out.lt; simp; omega) gn ?_; intro v2 w2 o2 g2 wh2; refine Hid.out ?_)
        obtain ⟨A2, c2, rfl⟩ := own_shape' o2
        rw [show ([] ++ [(k : Int)] : List Int).length = 1 from rfl] at o2 wh2
        have S2 := Lib.hid (Gs.step (S3.out.below ((Below.refl _ _).alloc (Nat.le_refl _) _)) rfl HT.out E2.out (t' := (A2, 1, c2)) o2 g2 wh2)
        obtain ⟨q1, f1⟩ := OwnL.atn rfl ((S3.out.below ((Below.refl _ _).alloc (Nat.le_refl _) _)).stay HT.out E2.out g2) HT.out
        have hgb : w.heap.size + 1 ≤ gb := (own_type S3.out.row rfl).1
        have M2 := Lib.hid (((M3.out.below ((Below.refl _ _).alloc (Nat.le_refl _) _)).kept g2 (base_ne (fun x hx => (own_type HO.out hx).1) (Nat.lt_succ_self _))).setCell (a := ⟨gb, p, none⟩) (by show w.heap.size ≠ gb; omega) (svV (A2, 1, c2)))
        have B2 : Hid (Below w.heap.size w (w2.setCell ⟨gb, p, none⟩ (svV (A2, 1, c2)))) := ((B3.out.alloc B3.out.size _).trans ((own_grown (OwnI.below HO.out ((Below.refl _ _).alloc (Nat.le_refl _) _)) g2 (by have := M3.out.lt; simp; omega)).mono (Nat.le_succ _))).setCell (by show w.heap.size ≤ gb; omega) _
        rw [ES.out] at S2
        rw [← E1.out] at M2
        clear o2 g2 wh2 HO HT E2 S3 M3 B3 q0 hgb gn Z
        refine Lib.hid ?_
        go_wp2_with fail
        go_roundw
        case rel => exact ⟨k + 1, _, by go_num, by omega, S2, M2, B2⟩
        case measure => simp [intOf]; omega
    · have d : decide (k < l.length) = false := by rw [decide_eq_false_iff_not]; exact hlt
      have E : Hid (LL wr u3 (grp ks)) := by
        have := HS.out.ll
        rw [List.take_of_length_le (by rw [EK.out]; omega)] at this
        exact this
      clear hlt HS HM
      go_wp2_with fail
      go_ret
      exact ⟨_, rfl, E.out, HB.out⟩
end Go.Proofs.YtfbobfejnbhjbaaDoor
