/-
  The law TimetableShrinks, from what the program's Check and Sizes answer: it answers true for every input; nothing that existed before the call has changed behind it. Condition: lengths of 63 bits.
-/
import Derived.Test.YtkhalnjgbdpfhaaTtX
namespace Go.Proofs.Ytkhalnjgbdpfhaa
open Go.RowKit

/-- The first elements of a list that came in. -/
theorem LstG.cut {α : Type} {enc : α → List Value} {W : World} {A : Option Addr} {c : Nat} {l : List α} (h : LstG enc W (.slice A l.length c) l) (n : Nat) : LstG enc W (.slice A (l.take n).length c) (l.take n) := by
  obtain ⟨A', c', e, hc, hn, hx⟩ := h
  cases e
  refine ⟨A, c, rfl, by rw [List.length_take]; omega, hn, fun h0 => ?_⟩
  rw [List.length_take] at h0
  obtain ⟨b, o, e, hb, hcell⟩ := hx (by omega)
  refine ⟨b, o, e, hb, fun j x hj => hcell j x ?_⟩
  have e2 : fl enc l = fl enc (l.take n) ++ fl enc (l.drop n) := by rw [← fl_app, List.take_append_drop]
  rw [e2, List.getElem?_append_left ((List.getElem?_eq_some_iff.1 hj).1)]
  exact hj
theorem LstG.cap {α : Type} {enc : α → List Value} {W : World} {A : Option Addr} {c : Nat} {l : List α} (h : LstG enc W (.slice A l.length c) l) : l.length ≤ c := by
  obtain ⟨A', c', e, hc, -, -⟩ := h
  cases e
  exact hc
theorem cut_ttl {W : World} {a : Nat → Option Addr} {c : Nat → Nat} {T : Tt} (h : TtL W a c T) (n : Nat) : TtL W a c (cutT T n) :=
  ⟨h.st, h.ro, h.ca, LstG.cut h.ex n, h.tr, LstG.cut h.fr n, LstG.cut h.th n, LstG.cut h.gu n, LstG.cut h.pa n, h.pr⟩
theorem cut_few {T : Tt} (f : fewT T = true) (n : Nat) : fewT (cutT T n) = true := by
  obtain ⟨⟨h0, h1, h2, h3, h4, h5, h6, h7, h8, h9⟩, hc⟩ := few_iff.1 f
  exact few_iff.2 ⟨⟨h0, h1, h2, Nat.le_trans (List.length_take_le' _ _) h3, h4, Nat.le_trans (List.length_take_le' _ _) h5, Nat.le_trans (List.length_take_le' _ _) h6, Nat.le_trans (List.length_take_le' _ _) h7, Nat.le_trans (List.length_take_le' _ _) h8, h9⟩, hc⟩
theorem cut_okt {T : Tt} (o : OkTt T) (n : Nat) : OkTt (cutT T n) :=
  ⟨fun j x h => by
    obtain ⟨i, hi⟩ := List.mem_iff_getElem?.1 (List.mem_of_mem_take (List.mem_of_getElem? h))
    exact o.1 i x hi, fun x h => o.2.1 x (List.mem_of_mem_take h), fun x h => o.2.2.1 x (List.mem_of_mem_take h), fun x h => o.2.2.2 x (List.mem_of_mem_take h)⟩
theorem cut_ln {T : Tt} (o : LnTt T) (n : Nat) : LnTt (cutT T n) :=
  ⟨o.1, o.2.1, o.2.2.1, Nat.le_trans (List.length_take_le' _ _) o.2.2.2.1, o.2.2.2.2.1, Nat.le_trans (List.length_take_le' _ _) o.2.2.2.2.2.1, Nat.le_trans (List.length_take_le' _ _) o.2.2.2.2.2.2.1, Nat.le_trans (List.length_take_le' _ _) o.2.2.2.2.2.2.2.1, Nat.le_trans (List.length_take_le' _ _) o.2.2.2.2.2.2.2.2.1, o.2.2.2.2.2.2.2.2.2⟩
theorem min_nat (n m : Nat) : (min (n : Int) (m : Int)).toNat = min n m := by omega
set_option maxRecDepth 100000 in
set_option maxHeartbeats 4000000 in
theorem shrinks_law (CK : CkC) (SZ : SzC) (a : Nat → Option Addr) (c : Nat → Nat) (T : Tt) (ln : LnTt T) (ok : OkTt T) (k : Int) (w : World) (h : TtL w a c T) : Calls Try.prog 5 #[ttV a c T, .int .i64 k] w fun e w' => e = .returned (.bool true) ∧ Below w.heap.size w w' := by
  obtain ⟨w7, hw7⟩ : ∃ W, w.alloc (boxTt a c T) = W := ⟨_, rfl⟩
  obtain ⟨b7, s7, c7⟩ := box_tt hw7
  obtain ⟨p0, p1, p2, p3, p4, p5, p6, p7, p8, p9, p10, p11, p12⟩ := row_tt c7
  have B7 := Lib.hid b7
  have C7 := Lib.hid c7
  have LA : Hid (w.heap.size < w7.heap.size) := Lib.hid s7
  have H := Lib.hid (fun W (hW : Below w7.heap.size w7 W) => (h.below b7).below hW)
  have H0 := Lib.hid h
  have K0 := Lib.hid (fun W (hW : Below w7.heap.size w7 W) => rfew_any a c T W (H.out W hW))
  have K9 := Lib.hid (fun W => ex_any CK SZ W)
  have HB : Hid (Below w7.heap.size w7 w7) := Lib.hid (Below.refl _ _)
  clear c7 s7 b7 h
  by_cases hf : fewT T = true
  case neg =>
    rw [Bool.not_eq_true] at hf
    rw [hf] at K0
    clear H
    go_enter Try.func5, Try.ntmps5
    go_wp2_with fail
    refine (K0.out w7 HB.out).mono ?_
    rintro e w8 ⟨rfl, b8⟩
    replace HB := Lib.hid (HB.out.trans (b8.mono HB.out.size))
    clear b8 p0 p1 p2 p3 p4 p5 p6 p7 p8 p9 p10 p11 p12
    go_wp2_with fail
    refine (K9.out w8).mono ?_
    rintro e w9 ⟨rfl, b9⟩
    replace HB := Lib.hid (HB.out.trans (b9.mono HB.out.size))
    clear b9
    go_wp2_with fail
    go_ret
    exact ⟨rfl, B7.out.trans (HB.out.mono B7.out.size)⟩
  by_cases hk : k < 0
  · have gk : k < 0 := hk
    rw [hf] at K0
    clear H hf
    go_enter Try.func5, Try.ntmps5
    go_wp2_with fail
    refine (K0.out w7 HB.out).mono ?_
    rintro e w8 ⟨rfl, b8⟩
    replace HB := Lib.hid (HB.out.trans (b8.mono HB.out.size))
    clear b8 p0 p1 p2 p3 p4 p5 p6 p7 p8 p9 p10 p11 p12
    go_wp2_with fail
    refine (K9.out w8).mono ?_
    rintro e w9 ⟨rfl, b9⟩
    replace HB := Lib.hid (HB.out.trans (b9.mono HB.out.size))
    clear b9
    go_wp2_with fail
    go_ret
    exact ⟨rfl, B7.out.trans (HB.out.mono B7.out.size)⟩
  obtain ⟨n, rfl⟩ : ∃ n : Nat, k = n := ⟨k.toNat, by omega⟩
  have gk : decide ((n : Int) < 0) = false := decide_eq_false hk
  have K1 := Lib.hid (fun W (hW : Below w7.heap.size w7 W) => CK a c T W hf ok ln (H.out W hW))
  rw [hf] at K0
  obtain ⟨⟨x, y, z⟩, hq⟩ : ∃ q, ttC T = q := ⟨_, rfl⟩
  rw [hq] at K1
  clear hk
  go_enter Try.func5, Try.ntmps5
  go_wp2_with fail
  refine (K0.out w7 HB.out).mono ?_
  rintro e w8 ⟨rfl, b8⟩
  replace HB := Lib.hid (HB.out.trans (b8.mono HB.out.size))
  clear b8 p0 p1 p2 p3 p4 p5 p6 p7 p8 p9 p10 p11 p12
  obtain ⟨p0, p1, p2, p3, p4, p5, p6, p7, p8, p9, p10, p11, p12⟩ := row_tt ((HB.out.block _ LA.out).trans C7.out)
  go_wp2_with fail
  refine (K1.out w8 HB.out).mono ?_
  rintro e w9 ⟨rfl, b9⟩
  replace HB := Lib.hid (HB.out.trans (b9.mono HB.out.size))
  clear b9 p0 p1 p2 p3 p4 p5 p6 p7 p8 p9 p10 p11 p12
  obtain ⟨p0, p1, p2, p3, p4, p5, p6, p7, p8, p9, p10, p11, p12⟩ := row_tt ((HB.out.block _ LA.out).trans C7.out)
  have hb := B7.out.trans (HB.out.mono B7.out.size)
  have h9 := (HB.out.block _ LA.out).trans C7.out
  have q3a := LstG.cap H0.out.ex
  have q3b : (0 : Int) ≤ min (n : Int) (T.ex.length : Int) := by omega
  have q3c : min (n : Int) (T.ex.length : Int) ≤ (c 3 : Int) := by omega
  have f3 : w9.frozen? ⟨w.heap.size, 3, none⟩ = false := frozen_of_row _ _ 3 _ _ h9
  have e3 : (min (n : Int) (T.ex.length : Int)).toNat = (cutT T n).ex.length := by rw [min_nat]; exact (List.length_take).symm
  clear q3a
  have q5a := LstG.cap H0.out.fr
  have q5b : (0 : Int) ≤ min (n : Int) (T.fr.length : Int) := by omega
  have q5c : min (n : Int) (T.fr.length : Int) ≤ (c 5 : Int) := by omega
  have f5 : w9.frozen? ⟨w.heap.size, 5, none⟩ = false := frozen_of_row _ _ 5 _ _ h9
  have e5 : (min (n : Int) (T.fr.length : Int)).toNat = (cutT T n).fr.length := by rw [min_nat]; exact (List.length_take).symm
  clear q5a
  have q6a := LstG.cap H0.out.th
  have q6b : (0 : Int) ≤ min (n : Int) (T.th.length : Int) := by omega
  have q6c : min (n : Int) (T.th.length : Int) ≤ (c 6 : Int) := by omega
  have f6 : w9.frozen? ⟨w.heap.size, 6, none⟩ = false := frozen_of_row _ _ 6 _ _ h9
  have e6 : (min (n : Int) (T.th.length : Int)).toNat = (cutT T n).th.length := by rw [min_nat]; exact (List.length_take).symm
  clear q6a
  have q7a := LstG.cap H0.out.gu
  have q7b : (0 : Int) ≤ min (n : Int) (T.gu.length : Int) := by omega
  have q7c : min (n : Int) (T.gu.length : Int) ≤ (c 7 : Int) := by omega
  have f7 : w9.frozen? ⟨w.heap.size, 7, none⟩ = false := frozen_of_row _ _ 7 _ _ h9
  have e7 : (min (n : Int) (T.gu.length : Int)).toNat = (cutT T n).gu.length := by rw [min_nat]; exact (List.length_take).symm
  clear q7a
  have q8a := LstG.cap H0.out.pa
  have q8b : (0 : Int) ≤ min (n : Int) (T.pa.length : Int) := by omega
  have q8c : min (n : Int) (T.pa.length : Int) ≤ (c 8 : Int) := by omega
  have f8 : w9.frozen? ⟨w.heap.size, 8, none⟩ = false := frozen_of_row _ _ 8 _ _ h9
  have e8 : (min (n : Int) (T.pa.length : Int)).toNat = (cutT T n).pa.length := by rw [min_nat]; exact (List.length_take).symm
  clear q8a
  have E3 := Lib.hid e3
  have E5 := Lib.hid e5
  have E6 := Lib.hid e6
  have E7 := Lib.hid e7
  have E8 := Lib.hid e8
  have HB9 := Lib.hid hb
  clear e3 e5 e6 e7 e8 h9 hb
  go_wp2_with fail
  rw [E3.out, E5.out, E6.out, E7.out, E8.out]
  obtain ⟨W5, hW5⟩ : ∃ W, (((((w9.setCell ⟨w.heap.size, 3, none⟩ (.slice (a 3) (cutT T n).ex.length (c 3))).setCell ⟨w.heap.size, 5, none⟩ (.slice (a 5) (cutT T n).fr.length (c 5))).setCell ⟨w.heap.size, 6, none⟩ (.slice (a 6) (cutT T n).th.length (c 6))).setCell ⟨w.heap.size, 7, none⟩ (.slice (a 7) (cutT T n).gu.length (c 7))).setCell ⟨w.heap.size, 8, none⟩ (.slice (a 8) (cutT T n).pa.length (c 8))) = W := ⟨_, rfl⟩
  rw [hW5]
  have b5 : Below w.heap.size w W5 := by rw [← hW5]; exact ((((HB9.out.setCell (Nat.le_refl _) _).setCell (Nat.le_refl _) _).setCell (Nat.le_refl _) _).setCell (Nat.le_refl _) _).setCell (Nat.le_refl _) _
  have K2 := CK a c (cutT T n) W5 (cut_few hf n) (cut_okt ok n) (cut_ln ln n) (cut_ttl (H0.out.below b5) n)
  have hcut := @cut_ok T n
  rw [hq] at hcut
  obtain ⟨⟨x', y', z'⟩, hq'⟩ : ∃ q, ttC (cutT T n) = q := ⟨_, rfl⟩
  rw [hq'] at K2 hcut
  refine K2.mono ?_
  rintro e w10 ⟨rfl, b10⟩
  have BT := Lib.hid (b5.trans (b10.mono b5.size))
  clear b5 b10 K2 hW5 p0 p1 p2 p3 p4 p5 p6 p7 p8 p9 p10 p11 p12
  by_cases hz : z = 0
  · have hz' : z' = 0 := hcut hz
    have g1 : (z != 0) = false := by simpa using hz
    have g2 : (z' == 0) = true := by simpa using hz'
    clear hcut hz hz'
    go_wp2_with fail
    refine (K9.out w10).mono ?_
    rintro e w11 ⟨rfl, b11⟩
    replace BT := Lib.hid (BT.out.trans (b11.mono BT.out.size))
    go_wp2_with fail
    go_ret
    exact ⟨rfl, BT.out⟩
  · have g1 : (z != 0) = true := bne_true hz
    clear hcut hz
    go_wp2_with fail
    refine (K9.out w10).mono ?_
    rintro e w11 ⟨rfl, b11⟩
    replace BT := Lib.hid (BT.out.trans (b11.mono BT.out.size))
    go_wp2_with fail
    go_ret
    exact ⟨rfl, BT.out⟩
end Go.Proofs.Ytkhalnjgbdpfhaa
