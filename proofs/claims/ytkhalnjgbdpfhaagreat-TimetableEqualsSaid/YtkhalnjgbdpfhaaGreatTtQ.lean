/-
  The law TimetableClones, from what the program's Clone, Equal, Check and Sizes answer: it answers true for every input; nothing that existed before the call has changed behind it. Condition: lengths of 63 bits.
-/
import Derived.Test.YtkhalnjgbdpfhaaGreatTtM
namespace Go.Proofs.YtkhalnjgbdpfhaaGreat
open Go.RowKit

/-- A trip without its slice of calls. -/
def noV (x : Tp) : List UInt8 × Int × Int × Bool × List Cl := (x.1, x.2.1, x.2.2.1, x.2.2.2.1, x.2.2.2.2.2)
/-- The second timetable has the elements of the first one (the slices of calls may be others). -/
structure CopT (T U : Tt) : Prop where
  st : U.st = T.st
  ro : U.ro = T.ro
  ca : U.ca = T.ca
  ex : U.ex = T.ex
  tr : U.tr.map noV = T.tr.map noV
  fr : U.fr = T.fr
  th : U.th = T.th
  gu : U.gu = T.gu
  pa : U.pa = T.pa
  pr : U.pr = T.pr
  di : U.di = T.di
  wi : U.wi = T.wi
  cp : U.cp = T.cp
theorem eTr_noV {x y : Tp} (h : noV x = noV y) : eTr x y = true := by
  obtain ⟨a, b, c, d, v, l⟩ := x
  obtain ⟨a', b', c', d', v', l'⟩ := y
  simp only [noV, Prod.mk.injEq] at h
  obtain ⟨rfl, rfl, rfl, rfl, rfl⟩ := h
  exact tr_same ⟨rfl, rfl, rfl, rfl⟩ (eq_refl eCc_r)
theorem eqTr_noV {l m : List Tp} (h : l.map noV = m.map noV) : eqB eTr l m = true := by
  have hl : l.length = m.length := by have := congrArg List.length h; simpa using this
  refine eq_end hl (fun j x y _ hx hy => eTr_noV ?_)
  have h1 : (l.map noV)[j]? = some (noV x) := by rw [List.getElem?_map, hx]; rfl
  have h2 : (m.map noV)[j]? = some (noV y) := by rw [List.getElem?_map, hy]; rfl
  rw [h, h2] at h1
  exact (Option.some.inj h1).symm
theorem clT_noV {l m : List Tp} (h : l.map noV = m.map noV) : l.map clT = m.map clT := by
  have e : clT = (fun z : List UInt8 × Int × Int × Bool × List Cl => z.2.2.2.2) ∘ noV := rfl
  rw [e, ← List.map_map, ← List.map_map, h]
theorem CopT.len {T U : Tt} (h : CopT T U) : U.tr.length = T.tr.length := by have := congrArg List.length h.tr; simpa using this
theorem CopT.eq {T U : Tt} (h : CopT T U) : eqT U T = true := by
  have ht := eqTr_noV h.tr
  have r := eqT_refl T
  unfold eqT at r ⊢
  unfold hdT tlT at r ⊢
  rw [h.st, h.ro, h.ca, h.ex, h.fr, h.th, h.gu, h.pa, h.pr, h.di, h.wi, h.cp, ht]
  rw [eqTr_noV rfl] at r
  exact r
theorem CopT.sum {T U : Tt} (h : CopT T U) : sumT U.tr = sumT T.tr := by
  have e := clT_noV h.tr
  unfold sumT
  rw [show (fun x : Tp => (clT x).length) = List.length ∘ clT from rfl, ← List.map_map, ← List.map_map, e]
theorem CopT.sz {T U : Tt} (h : CopT T U) : szV U = szV T := by unfold szV; rw [h.st, h.ro, h.ca, h.ex, h.len, h.sum, h.fr, h.th, h.gu, h.pa, h.pr]
theorem CopT.few {T U : Tt} (h : CopT T U) (f : fewT T = true) : fewT U = true := by
  obtain ⟨⟨h0, h1, h2, h3, h4, h5, h6, h7, h8, h9⟩, hc⟩ := few_iff.1 f
  refine few_iff.2 ⟨⟨?_, ?_, ?_, ?_, ?_, ?_, ?_, ?_, ?_, ?_⟩, fun x hx => ?_⟩
  · rw [h.st]; exact h0
  · rw [h.ro]; exact h1
  · rw [h.ca]; exact h2
  · rw [h.ex]; exact h3
  · rw [h.len]; exact h4
  · rw [h.fr]; exact h5
  · rw [h.th]; exact h6
  · rw [h.gu]; exact h7
  · rw [h.pa]; exact h8
  · rw [h.pr]; exact h9
  · have hm : clT x ∈ U.tr.map clT := List.mem_map_of_mem hx
    rw [clT_noV h.tr] at hm
    obtain ⟨y, hy, e⟩ := List.mem_map.1 hm
    rw [← e]
    exact hc y hy
theorem CopT.ok {T U : Tt} (h : CopT T U) (o : OkTt T) : OkTt U := by unfold OkTt; rw [h.ex, h.th, h.gu, h.pa]; exact o
theorem CopT.ln {T U : Tt} (h : CopT T U) (o : LnTt T) : LnTt U := by unfold LnTt; rw [h.st, h.ro, h.ca, h.ex, h.len, h.fr, h.th, h.gu, h.pa, h.pr]; exact o
/-- What the program's Clone answers. -/
def ClC : Prop := ∀ (a : Nat → Option Addr) (c : Nat → Nat) (T : Tt) (w : World), fewT T = true → OkTt T → LnTt T → TtL w a c T → Calls Tryz.prog 10 #[ttV a c T] w fun e w' => ∃ (a' : Nat → Option Addr) (c' : Nat → Nat) (U : Tt), e = .returned (ttV a' c' U) ∧ CopT T U ∧ TtL w' a' c' U ∧ Below w.heap.size w w'
set_option maxRecDepth 100000 in
set_option maxHeartbeats 4000000 in
theorem clones_law (CK : CkC) (SZ : SzC) (EQ : EqC) (CL : ClC) (a : Nat → Option Addr) (c : Nat → Nat) (T : Tt) (ln : LnTt T) (ok : OkTt T) (w : World) (h : TtL w a c T) : Calls Tryz.prog 4 #[ttV a c T] w fun e w' => e = .returned (.bool true) ∧ Below w.heap.size w w' := by
  obtain ⟨w7, hw7⟩ : ∃ W, w.alloc (boxTt a c T) = W := ⟨_, rfl⟩
  obtain ⟨b7, s7, c7⟩ := box_tt hw7
  obtain ⟨p0, p1, p2, p3, p4, p5, p6, p7, p8, p9, p10, p11, p12⟩ := row_tt c7
  have B7 := Lib.hid b7
  have C7 := Lib.hid c7
  have LA : Hid (w.heap.size < w7.heap.size) := Lib.hid s7
  have H := Lib.hid (fun W (hW : Below w7.heap.size w7 W) => (h.below b7).below hW)
  have K0 := Lib.hid (fun W (hW : Below w7.heap.size w7 W) => rfew_any a c T W (H.out W hW))
  have K9 := Lib.hid (fun W (_ : Below w7.heap.size w7 W) => ex_any CK SZ W)
  have HB : Hid (Below w7.heap.size w7 w7) := Lib.hid (Below.refl _ _)
  clear c7 s7 b7 h
  by_cases hf : fewT T = true
  case neg =>
    rw [Bool.not_eq_true] at hf
    rw [hf] at K0
    clear H
    go_enter Tryz.func4, Tryz.ntmps4
    go_wp2_with fail
    refine (K0.out w7 (HB.out)).mono ?_
    rintro e w8 ⟨rfl, bw8⟩
    replace HB := Lib.hid (HB.out.trans (bw8.mono HB.out.size))
    clear bw8 p0 p1 p2 p3 p4 p5 p6 p7 p8 p9 p10 p11 p12
    go_wp2_with fail
    refine (K9.out w8 (HB.out)).mono ?_
    rintro e w9 ⟨rfl, bw9⟩
    replace HB := Lib.hid (HB.out.trans (bw9.mono HB.out.size))
    clear bw9
    go_wp2_with fail
    go_ret
    exact ⟨rfl, B7.out.trans (HB.out.mono B7.out.size)⟩
  have K1 := Lib.hid (fun W (hW : Below w7.heap.size w7 W) => CL a c T W hf ok ln (H.out W hW))
  have HF := Lib.hid hf
  rw [hf] at K0
  clear hf
  go_enter Tryz.func4, Tryz.ntmps4
  go_wp2_with fail
  refine (K0.out w7 (HB.out)).mono ?_
  rintro e w8 ⟨rfl, bw8⟩
  replace HB := Lib.hid (HB.out.trans (bw8.mono HB.out.size))
  clear bw8 p0 p1 p2 p3 p4 p5 p6 p7 p8 p9 p10 p11 p12
  obtain ⟨p0, p1, p2, p3, p4, p5, p6, p7, p8, p9, p10, p11, p12⟩ := row_tt ((HB.out.block _ LA.out).trans C7.out)
  go_wp2_with fail
  refine (K1.out w8 HB.out).mono ?_
  rintro e w9 ⟨a', c', U, rfl, hU, l9, b9⟩
  replace HB := Lib.hid (HB.out.trans (b9.mono HB.out.size))
  clear b9 p0 p1 p2 p3 p4 p5 p6 p7 p8 p9 p10 p11 p12
  obtain ⟨p0, p1, p2, p3, p4, p5, p6, p7, p8, p9, p10, p11, p12⟩ := row_tt ((HB.out.block _ LA.out).trans C7.out)
  obtain ⟨w10, hw10⟩ : ∃ W, w9.alloc (boxTt a' c' U) = W := ⟨_, rfl⟩
  obtain ⟨b10, s10, c10⟩ := box_tt hw10
  have L10 := Lib.hid (l9.below b10)
  have LC : Hid (w9.heap.size < w10.heap.size) := Lib.hid s10
  have RC := Lib.hid c10
  clear p0 p1 p2 p3 p4 p5 p6 p7 p8 p9 p10 p11 p12
  obtain ⟨p0, p1, p2, p3, p4, p5, p6, p7, p8, p9, p10, p11, p12⟩ := row_tt ((HB.out.block _ LA.out).trans C7.out)
  have HC := Lib.hid (HB.out.trans (b10.mono HB.out.size))
  have RT : Hid (w10.heap[w.heap.size]? = some (boxTt a c T)) := Lib.hid ((HC.out.block _ LA.out).trans C7.out)
  have LT : Hid (w.heap.size < w10.heap.size) := Lib.hid (Nat.lt_of_lt_of_le LA.out HC.out.size)
  have K2 := Lib.hid (fun W (hW : Below w10.heap.size w10 W) => rtte_any a' a c' c U T (few_iff.1 (hU.few HF.out)).1 W (L10.out.below hW) (H.out W (HC.out.trans (hW.mono HC.out.size))))
  have K3 := Lib.hid (fun W (hW : Below w10.heap.size w10 W) => EQ a' a c' c U T W (hU.few HF.out) HF.out (L10.out.below hW) (H.out W (HC.out.trans (hW.mono HC.out.size))))
  have K4 := Lib.hid (fun W (hW : Below w10.heap.size w10 W) => SZ a' c' U W (hU.few HF.out) (hU.ok ok) (hU.ln ln) (L10.out.below hW))
  have K5 := Lib.hid (fun W (hW : Below w10.heap.size w10 W) => SZ a c T W HF.out ok ln (H.out W (HC.out.trans (hW.mono HC.out.size))))
  have K6 := Lib.hid (fun W (hW : Below w10.heap.size w10 W) => K9.out W (HC.out.trans (hW.mono HC.out.size)))
  rw [hU.eq] at K2 K3
  rw [hU.sz] at K4
  obtain ⟨z0, z1, z2, z3, z4, z5, z6, z7, z8, z9, z10, hz⟩ : ∃ z0 z1 z2 z3 z4 z5 z6 z7 z8 z9 z10 : Int, szV T = .agg #[.int .i64 z0, .int .i64 z1, .int .i64 z2, .int .i64 z3, .int .i64 z4, .int .i64 z5, .int .i64 z6, .int .i64 z7, .int .i64 z8, .int .i64 z9, .int .i64 z10] := ⟨_, _, _, _, _, _, _, _, _, _, _, rfl⟩
  rw [hz] at K4 K5
  clear l9 b10 s10 c10 hU hz H
  go_wp2_with fail
  clear p0 p1 p2 p3 p4 p5 p6 p7 p8 p9 p10 p11 p12
  refine wp_region_held_drew (S := fun W => Below w10.heap.size w10 W) (by kernel_rfl) ((Below.refl _ _).drew) (fun hHeld => ?_)
  have hB0 := Lib.hid hHeld
  refine takeH (i := 0) (v := ?_) 10 rfl rfl (by kernel_rfl) (by kernel_rfl) (by kernel_rfl) (fun _ _ _ h => h) (Or.inl ⟨by rfl, ?_⟩) (by assumption) ?_
  rotate_left 1
  · intro W hW
    obtain ⟨p0, p1, p2, p3, p4, p5, p6, p7, p8, p9, p10, p11, p12⟩ := row_tt (((hW).block _ LC.out).trans RC.out)
    go_simp
    try with_reducible rfl
  simp only [Act.put, List.setIfInBounds_toArray, List.set_cons_zero, List.set_cons_succ]
  refine takeH (i := 1) (v := ?_) 11 rfl rfl (by kernel_rfl) (by kernel_rfl) (by kernel_rfl) (fun _ _ _ h => h) (Or.inl ⟨by rfl, ?_⟩) (by assumption) ?_
  rotate_left 1
  · intro W hW
    obtain ⟨p0, p1, p2, p3, p4, p5, p6, p7, p8, p9, p10, p11, p12⟩ := row_tt (((hW).block _ LT.out).trans RT.out)
    go_simp
    try with_reducible rfl
  simp only [Act.put, List.setIfInBounds_toArray, List.set_cons_zero, List.set_cons_succ]
  refine wpAnyH_ready (rs := [2]) (by kernel_rfl) (by simp) ?_
  refine AllReadyH.cons rfl (fun K hK => ?_) AllReadyH.nil
  go_simp
  refine (K2.out _ (hB0.out)).mono ?_
  rintro e x1 ⟨rfl, y1⟩
  have hB1 := Lib.hid (bel_on hB0.out y1)
  refine hK.out _ _ (hB1.out) (fun _ => ?_)
  clear hK K hHeld
  refine wpAnyH_behind (w := x1) (hB1.out) ?_
  have hHeld := Below.refl x1.heap.size x1
  refine takeH (i := 3) (v := ?_) 13 rfl rfl (by kernel_rfl) (by kernel_rfl) (by kernel_rfl) (fun _ _ _ h => h) (Or.inl ⟨by rfl, ?_⟩) (by assumption) ?_
  rotate_left 1
  · intro W hW
    go_simp
    try with_reducible rfl
  simp only [Act.put, List.setIfInBounds_toArray, List.set_cons_zero, List.set_cons_succ]
  refine takeH (i := 4) (v := ?_) 14 rfl rfl (by kernel_rfl) (by kernel_rfl) (by kernel_rfl) (fun _ _ _ h => h) (Or.inl ⟨by rfl, ?_⟩) (by assumption) ?_
  rotate_left 1
  · intro W hW
    obtain ⟨p0, p1, p2, p3, p4, p5, p6, p7, p8, p9, p10, p11, p12⟩ := row_tt (((hB1.out.trans (hW.mono hB1.out.size)).block _ LC.out).trans RC.out)
    go_simp
    try with_reducible rfl
  simp only [Act.put, List.setIfInBounds_toArray, List.set_cons_zero, List.set_cons_succ]
  refine takeH (i := 5) (v := ?_) 15 rfl rfl (by kernel_rfl) (by kernel_rfl) (by kernel_rfl) (fun _ _ _ h => h) (Or.inl ⟨by rfl, ?_⟩) (by assumption) ?_
  rotate_left 1
  · intro W hW
    obtain ⟨p0, p1, p2, p3, p4, p5, p6, p7, p8, p9, p10, p11, p12⟩ := row_tt (((hB1.out.trans (hW.mono hB1.out.size)).block _ LT.out).trans RT.out)
    go_simp
    try with_reducible rfl
  simp only [Act.put, List.setIfInBounds_toArray, List.set_cons_zero, List.set_cons_succ]
  refine wpAnyH_ready (rs := [6]) (by kernel_rfl) (by simp) ?_
  refine AllReadyH.cons rfl (fun K hK => ?_) AllReadyH.nil
  go_simp
  refine (K3.out _ (hB1.out)).mono ?_
  rintro e x2 ⟨rfl, y2⟩
  have hB2 := Lib.hid (bel_on hB1.out y2)
  have hS2 := bel_on hHeld y2
  refine hK.out _ _ hS2 (fun _ => ?_)
  refine wpAnyH_behind (w := x2) hS2 ?_
  clear hK K hHeld hS2
  have hHeld := Below.refl x2.heap.size x2
  refine takeH (i := 7) (v := ?_) 17 rfl rfl (by kernel_rfl) (by kernel_rfl) (by kernel_rfl) (fun _ _ _ h => h) (Or.inl ⟨by rfl, ?_⟩) (by assumption) ?_
  rotate_left 1
  · intro W hW
    go_simp
    try with_reducible rfl
  simp only [Act.put, List.setIfInBounds_toArray, List.set_cons_zero, List.set_cons_succ]
  refine takeH (i := 8) (v := ?_) 18 rfl rfl (by kernel_rfl) (by kernel_rfl) (by kernel_rfl) (fun _ _ _ h => h) (Or.inl ⟨by rfl, ?_⟩) (by assumption) ?_
  rotate_left 1
  · intro W hW
    go_simp
    try with_reducible rfl
  simp only [Act.put, List.setIfInBounds_toArray, List.set_cons_zero, List.set_cons_succ]
  refine takeH (i := 9) (v := ?_) 19 rfl rfl (by kernel_rfl) (by kernel_rfl) (by kernel_rfl) (fun _ _ _ h => h) (Or.inl ⟨by rfl, ?_⟩) (by assumption) ?_
  rotate_left 1
  · intro W hW
    obtain ⟨p0, p1, p2, p3, p4, p5, p6, p7, p8, p9, p10, p11, p12⟩ := row_tt (((hB2.out.trans (hW.mono hB2.out.size)).block _ LC.out).trans RC.out)
    go_simp
    try with_reducible rfl
  simp only [Act.put, List.setIfInBounds_toArray, List.set_cons_zero, List.set_cons_succ]
  refine takeH (i := 11) (v := ?_) 21 rfl rfl (by kernel_rfl) (by kernel_rfl) (by kernel_rfl) (fun _ _ _ h => h) (Or.inl ⟨by rfl, ?_⟩) (by assumption) ?_
  rotate_left 1
  · intro W hW
    obtain ⟨p0, p1, p2, p3, p4, p5, p6, p7, p8, p9, p10, p11, p12⟩ := row_tt (((hB2.out.trans (hW.mono hB2.out.size)).block _ LT.out).trans RT.out)
    go_simp
    try with_reducible rfl
  simp only [Act.put, List.setIfInBounds_toArray, List.set_cons_zero, List.set_cons_succ]
  refine wpAnyH_ready (rs := [10]) (by kernel_rfl) (by simp) ?_
  refine AllReadyH.cons rfl (fun K hK => ?_) AllReadyH.nil
  go_simp
  refine (K4.out _ (hB2.out)).mono ?_
  rintro e x3 ⟨rfl, y3⟩
  have hB3 := Lib.hid (bel_on hB2.out y3)
  have hS3 := bel_on hHeld y3
  refine hK.out _ _ hS3 (fun _ => ?_)
  refine wpAnyH_behind (w := x3) hS3 ?_
  clear hK K hHeld hS3
  have hHeld := Below.refl x3.heap.size x3
  refine wpAnyH_ready (rs := [12]) (by kernel_rfl) (by simp) ?_
  refine AllReadyH.cons rfl (fun K hK => ?_) AllReadyH.nil
  go_simp
  refine (K5.out _ (hB3.out)).mono ?_
  rintro e x4 ⟨rfl, y4⟩
  have hB4 := Lib.hid (bel_on hB3.out y4)
  have hS4 := bel_on hHeld y4
  refine hK.out _ _ hS4 (fun _ => ?_)
  refine wpAnyH_behind (w := x4) hS4 ?_
  clear hK K hHeld hS4
  have hHeld := Below.refl x4.heap.size x4
  refine takeH (i := 13) (v := ?_) 23 rfl rfl (by kernel_rfl) (by kernel_rfl) (by kernel_rfl) (fun _ _ _ h => h) (Or.inl ⟨by rfl, ?_⟩) (by assumption) ?_
  rotate_left 1
  · intro W hW
    have E := eqIn_11 z0 z1 z2 z3 z4 z5 z6 z7 z8 z9 z10 z0 z1 z2 z3 z4 z5 z6 z7 z8 z9 z10 W 9998
    go_simp
    try with_reducible rfl
  simp only [Act.put, List.setIfInBounds_toArray, List.set_cons_zero, List.set_cons_succ]
  refine takeH (i := 14) (v := ?_) 24 rfl rfl (by kernel_rfl) (by kernel_rfl) (by kernel_rfl) (fun _ _ _ h => h) (Or.inl ⟨by rfl, ?_⟩) (by assumption) ?_
  rotate_left 1
  · intro W hW
    go_simp
    try with_reducible rfl
  simp only [Act.put, List.setIfInBounds_toArray, List.set_cons_zero, List.set_cons_succ]
  refine takeH (i := 15) (v := ?_) 25 rfl rfl (by kernel_rfl) (by kernel_rfl) (by kernel_rfl) (fun _ _ _ h => h) (Or.inl ⟨by rfl, ?_⟩) (by assumption) ?_
  rotate_left 1
  · intro W hW
    go_simp
    try with_reducible rfl
  simp only [Act.put, List.setIfInBounds_toArray, List.set_cons_zero, List.set_cons_succ]
  refine wpAnyH_ready (rs := [16]) (by kernel_rfl) (by simp) ?_
  refine AllReadyH.cons rfl (fun K hK => ?_) AllReadyH.nil
  go_simp
  refine (K6.out _ (hB4.out)).mono ?_
  rintro e x5 ⟨rfl, y5⟩
  have hB5 := Lib.hid (bel_on hB4.out y5)
  have hS5 := bel_on hHeld y5
  refine hK.out _ _ hS5 (fun _ => ?_)
  refine wpAnyH_behind (w := x5) hS5 ?_
  clear hK K hHeld hS5
  have hHeld := Below.refl x5.heap.size x5
  refine takeH (i := 17) (v := ?_) 27 rfl rfl (by kernel_rfl) (by kernel_rfl) (by kernel_rfl) (fun _ _ _ h => h) (Or.inl ⟨by rfl, ?_⟩) (by assumption) ?_
  rotate_left 1
  · intro W hW
    go_simp
    try with_reducible rfl
  simp only [Act.put, List.setIfInBounds_toArray, List.set_cons_zero, List.set_cons_succ]
  refine takeH (i := 18) (v := ?_) 2 rfl rfl (by kernel_rfl) (by kernel_rfl) (by kernel_rfl) (fun _ _ _ h => h) (Or.inl ⟨by rfl, ?_⟩) (by assumption) ?_
  rotate_left 1
  · intro W hW
    go_simp
    try with_reducible rfl
  simp only [Act.put, List.setIfInBounds_toArray, List.set_cons_zero, List.set_cons_succ]
  refine wpAnyH_done (by kernel_rfl) ?_ _
  have HB := Lib.hid (HC.out.trans (hB5.out.mono HC.out.size))
  go_wp2_with fail
  go_ret
  exact ⟨rfl, B7.out.trans (HB.out.mono B7.out.size)⟩
end Go.Proofs.YtkhalnjgbdpfhaaGreat
