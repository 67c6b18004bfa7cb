/-
  Check of the program's timetables: the first part whose check has an error; nothing that existed before the call has changed behind it. Condition: few elements.
-/
import Derived.Test.YtkhalnjgbdpfhaaGreatTtC
namespace Go.Proofs.YtkhalnjgbdpfhaaGreat
open Go.RowKit

theorem three_set {W : World} {t : TypeId} {x y z : Nat} {u1 u2 u3 : Value} (hx : Boxed W x t u1) (hy : Boxed W y t u2) (hz : Boxed W z t u3) (xy : x ≠ y) (xz : x ≠ z) (yz : y ≠ z) (p q r : Value) :
    Boxed (((W.setCell ⟨x, 0, none⟩ p).setCell ⟨y, 0, none⟩ q).setCell ⟨z, 0, none⟩ r) x t p ∧ Boxed (((W.setCell ⟨x, 0, none⟩ p).setCell ⟨y, 0, none⟩ q).setCell ⟨z, 0, none⟩ r) y t q ∧ Boxed (((W.setCell ⟨x, 0, none⟩ p).setCell ⟨y, 0, none⟩ q).setCell ⟨z, 0, none⟩ r) z t r :=
  ⟨((hx.set _).other xy _).other xz _, ((hy.other xy.symm _).set _).other yz _, ((hz.other xz.symm _).other yz.symm _).set _⟩
theorem cks_end (a : Nat → Option Addr) (c : Nat → Nat) (T : Tt) (hf : fewT T = true) (ok : OkTt T) {w0 W : World} {t ti : TypeId} {B x y z base : Nat} (hb : Below base w0 W) (hB : W.heap[B]? = some (boxTt a c T)) (h : TtL w0 a c T) (hbase : base ≤ B) (bs : base = w0.heap.size) (bx : B < x) (b_y : B < y) (bz : B < z) (hx : Boxed W x ti (.int .i64 0)) (hy : Boxed W y ti (.int .i64 0)) (hz : Boxed W z ti (.int .i64 0)) (xy : x ≠ y) (xz : x ≠ z) (yz : y ≠ z) :
    Cks T (((((W.setCell ⟨x, 0, none⟩ (.int .i64 T.st.length)).setCell ⟨y, 0, none⟩ (.int .i64 T.ro.length)).setCell ⟨z, 0, none⟩ (.int .i64 T.ca.length)).alloc (.cells #[.func (.func 41) #[] #[.pointer (some ⟨B, 0, none⟩)], .func (.func 43) #[] #[.pointer (some ⟨B, 0, none⟩)], .func (.func 45) #[] #[.pointer (some ⟨B, 0, none⟩)], .func (.func 47) #[] #[.pointer (some ⟨B, 0, none⟩), .pointer (some ⟨z, 0, none⟩)], .func (.func 49) #[] #[.pointer (some ⟨B, 0, none⟩), .pointer (some ⟨x, 0, none⟩), .pointer (some ⟨y, 0, none⟩), .pointer (some ⟨z, 0, none⟩)], .func (.func 51) #[] #[.pointer (some ⟨B, 0, none⟩)], .func (.func 53) #[] #[.pointer (some ⟨B, 0, none⟩)], .func (.func 55) #[] #[.pointer (some ⟨B, 0, none⟩), .pointer (some ⟨x, 0, none⟩)], .func (.func 57) #[] #[.pointer (some ⟨B, 0, none⟩), .pointer (some ⟨x, 0, none⟩)], .func (.func 59) #[] #[.pointer (some ⟨B, 0, none⟩)]] t (0, 0))).drew) (.slice (some ⟨W.heap.size, 0, none⟩) 10 10) ∧ Below base w0 (((((W.setCell ⟨x, 0, none⟩ (.int .i64 T.st.length)).setCell ⟨y, 0, none⟩ (.int .i64 T.ro.length)).setCell ⟨z, 0, none⟩ (.int .i64 T.ca.length)).alloc (.cells #[.func (.func 41) #[] #[.pointer (some ⟨B, 0, none⟩)], .func (.func 43) #[] #[.pointer (some ⟨B, 0, none⟩)], .func (.func 45) #[] #[.pointer (some ⟨B, 0, none⟩)], .func (.func 47) #[] #[.pointer (some ⟨B, 0, none⟩), .pointer (some ⟨z, 0, none⟩)], .func (.func 49) #[] #[.pointer (some ⟨B, 0, none⟩), .pointer (some ⟨x, 0, none⟩), .pointer (some ⟨y, 0, none⟩), .pointer (some ⟨z, 0, none⟩)], .func (.func 51) #[] #[.pointer (some ⟨B, 0, none⟩)], .func (.func 53) #[] #[.pointer (some ⟨B, 0, none⟩)], .func (.func 55) #[] #[.pointer (some ⟨B, 0, none⟩), .pointer (some ⟨x, 0, none⟩)], .func (.func 57) #[] #[.pointer (some ⟨B, 0, none⟩), .pointer (some ⟨x, 0, none⟩)], .func (.func 59) #[] #[.pointer (some ⟨B, 0, none⟩)]] t (0, 0))).drew) := by
  obtain ⟨e1, e2, e3⟩ := three_set hx hy hz xy xz yz (.int .i64 T.st.length) (.int .i64 T.ro.length) (.int .i64 T.ca.length)
  have eB : (((W.setCell ⟨x, 0, none⟩ (.int .i64 T.st.length)).setCell ⟨y, 0, none⟩ (.int .i64 T.ro.length)).setCell ⟨z, 0, none⟩ (.int .i64 T.ca.length)).heap[B]? = some (boxTt a c T) := by
    rw [RowKit.Below.heap_setCell _ _ _ B (by show B ≠ z; omega), RowKit.Below.heap_setCell _ _ _ B (by show B ≠ y; omega), RowKit.Below.heap_setCell _ _ _ B (by show B ≠ x; omega)]
    exact hB
  have b1 := ((hb.setCell (p := ⟨x, 0, none⟩) (by show base ≤ x; omega) (.int .i64 T.st.length)).setCell (p := ⟨y, 0, none⟩) (by show base ≤ y; omega) (.int .i64 T.ro.length)).setCell (p := ⟨z, 0, none⟩) (by show base ≤ z; omega) (.int .i64 T.ca.length)
  have sz : (((W.setCell ⟨x, 0, none⟩ (.int .i64 T.st.length)).setCell ⟨y, 0, none⟩ (.int .i64 T.ro.length)).setCell ⟨z, 0, none⟩ (.int .i64 T.ca.length)).heap.size = W.heap.size := by simp
  generalize ((W.setCell ⟨x, 0, none⟩ (.int .i64 T.st.length)).setCell ⟨y, 0, none⟩ (.int .i64 T.ro.length)).setCell ⟨z, 0, none⟩ (.int .i64 T.ca.length) = W1 at e1 e2 e3 eB b1 sz ⊢
  rw [← sz]
  obtain ⟨W2, hW2⟩ : ∃ X, W1.alloc (.cells #[.func (.func 41) #[] #[.pointer (some ⟨B, 0, none⟩)], .func (.func 43) #[] #[.pointer (some ⟨B, 0, none⟩)], .func (.func 45) #[] #[.pointer (some ⟨B, 0, none⟩)], .func (.func 47) #[] #[.pointer (some ⟨B, 0, none⟩), .pointer (some ⟨z, 0, none⟩)], .func (.func 49) #[] #[.pointer (some ⟨B, 0, none⟩), .pointer (some ⟨x, 0, none⟩), .pointer (some ⟨y, 0, none⟩), .pointer (some ⟨z, 0, none⟩)], .func (.func 51) #[] #[.pointer (some ⟨B, 0, none⟩)], .func (.func 53) #[] #[.pointer (some ⟨B, 0, none⟩)], .func (.func 55) #[] #[.pointer (some ⟨B, 0, none⟩), .pointer (some ⟨x, 0, none⟩)], .func (.func 57) #[] #[.pointer (some ⟨B, 0, none⟩), .pointer (some ⟨x, 0, none⟩)], .func (.func 59) #[] #[.pointer (some ⟨B, 0, none⟩)]] t (0, 0)) = X := ⟨_, rfl⟩
  have b2 : Below W1.heap.size W1 W2 := by rw [← hW2]; exact (Below.refl _ _).alloc (Nat.le_refl _) _
  have y2 : W2.heap[W1.heap.size]? = some (.cells #[.func (.func 41) #[] #[.pointer (some ⟨B, 0, none⟩)], .func (.func 43) #[] #[.pointer (some ⟨B, 0, none⟩)], .func (.func 45) #[] #[.pointer (some ⟨B, 0, none⟩)], .func (.func 47) #[] #[.pointer (some ⟨B, 0, none⟩), .pointer (some ⟨z, 0, none⟩)], .func (.func 49) #[] #[.pointer (some ⟨B, 0, none⟩), .pointer (some ⟨x, 0, none⟩), .pointer (some ⟨y, 0, none⟩), .pointer (some ⟨z, 0, none⟩)], .func (.func 51) #[] #[.pointer (some ⟨B, 0, none⟩)], .func (.func 53) #[] #[.pointer (some ⟨B, 0, none⟩)], .func (.func 55) #[] #[.pointer (some ⟨B, 0, none⟩), .pointer (some ⟨x, 0, none⟩)], .func (.func 57) #[] #[.pointer (some ⟨B, 0, none⟩), .pointer (some ⟨x, 0, none⟩)], .func (.func 59) #[] #[.pointer (some ⟨B, 0, none⟩)]] t (0, 0)) := by rw [← hW2]; exact heap_alloc_new W1 _
  have gB : B < W1.heap.size := (Array.getElem?_eq_some_iff.1 eB).1
  have bb : Below base w0 W2 := b1.trans (b2.mono (by omega))
  rw [hW2]
  refine ⟨?_, bb.drew⟩
  have hh : TtL W2 a c T := h.below (by rw [← bs]; exact bb)
  exact (cks_mk a c T hf ok B x y z W1.heap.size W2.drew ((b2.block _ gB).trans eB) ((b2.drew.cell (p := ⟨x, 0, none⟩) e1.lt).trans e1.cell) ((b2.drew.cell (p := ⟨y, 0, none⟩) e2.lt).trans e2.cell) ((b2.drew.cell (p := ⟨z, 0, none⟩) e3.lt).trans e3.cell) (hh.below (Below.refl _ _).drew) t y2)
set_option maxRecDepth 100000 in
set_option maxHeartbeats 2000000 in
theorem checks_any (a : Nat → Option Addr) (c : Nat → Nat) (T : Tt) (hf : fewT T = true) (ok : OkTt T) (w : World) (h : TtL w a c T) : Calls Tryz.prog 14 #[ttV a c T] w fun e w' => ∃ v, e = .returned v ∧ Cks T w' v ∧ Below w.heap.size w w' := by
  obtain ⟨w7, hw7⟩ : ∃ W, w.alloc (boxTt a c T) = W := ⟨_, rfl⟩
  obtain ⟨b7, s7, c7⟩ := box_tt hw7
  obtain ⟨w8, hw8⟩ : ∃ W, w7.alloc (.cells #[.int .i64 0] 3 (0, 0)) = W := ⟨_, rfl⟩
  obtain ⟨w9, hw9⟩ : ∃ W, w8.alloc (.cells #[.int .i64 0] 3 (0, 0)) = W := ⟨_, rfl⟩
  obtain ⟨wA, hwA⟩ : ∃ W, w9.alloc (.cells #[.int .i64 0] 3 (0, 0)) = W := ⟨_, rfl⟩
  have z8 : w8.heap.size = w7.heap.size + 1 := by rw [← hw8]; simp
  have z9 : w9.heap.size = w7.heap.size + 2 := by rw [← hw9]; simp [z8]
  have b8 : Below w7.heap.size w7 w8 := by rw [← hw8]; exact (Below.refl _ _).alloc (Nat.le_refl _) _
  have b9 : Below w8.heap.size w8 w9 := by rw [← hw9]; exact (Below.refl _ _).alloc (Nat.le_refl _) _
  have bA : Below w9.heap.size w9 wA := by rw [← hwA]; exact (Below.refl _ _).alloc (Nat.le_refl _) _
  have y8 : w8.heap[w7.heap.size]? = some (.cells #[.int .i64 0] 3 (0, 0)) := by rw [← hw8]; exact heap_alloc_new w7 _
  have y9 : w9.heap[w8.heap.size]? = some (.cells #[.int .i64 0] 3 (0, 0)) := by rw [← hw9]; exact heap_alloc_new w8 _
  have yA : wA.heap[w9.heap.size]? = some (.cells #[.int .i64 0] 3 (0, 0)) := by rw [← hwA]; exact heap_alloc_new w9 _
  have c8 := (bA.block _ (by omega)).trans ((b9.block _ (by omega)).trans y8)
  have c9 := (bA.block _ (by omega)).trans y9
  have b7A := b8.trans ((b9.trans (bA.mono (by omega))).mono (by omega))
  obtain ⟨p0, p1, p2, -, -, -, -, -, -, -, -, -, -⟩ := row_tt ((b7A.block _ s7).trans c7)
  obtain ⟨t0, t1, t2, -, -, -, -, -, -, -, -, -, -⟩ := row_tt c7
  obtain ⟨u0, u1, u2, -, -, -, -, -, -, -, -, -, -⟩ := row_tt ((b8.block _ s7).trans c7)
  obtain ⟨v0, v1, v2, -, -, -, -, -, -, -, -, -, -⟩ := row_tt ((b9.block _ (by omega)).trans ((b8.block _ s7).trans c7))
  rw [z8] at c9
  rw [z9] at yA
  have bx3 : ∀ x, w7.heap.size ≤ x → x < w7.heap.size + 3 → Boxed wA x 3 (.int .i64 0) := by
    intro x h1 h2
    by_cases e1 : x = w7.heap.size
    · subst e1; exact c8
    by_cases e2 : x = w7.heap.size + 1
    · subst e2; exact c9
    have e3 : x = w7.heap.size + 2 := by omega
    subst e3
    exact yA
  have r8 : wA.cell? ⟨w7.heap.size, 0, none⟩ = some (.int .i64 0) := by rw [cell_of_row _ _ 0 _ _ _ c8]; rfl
  have r9 : wA.cell? ⟨w7.heap.size + 1, 0, none⟩ = some (.int .i64 0) := by rw [cell_of_row _ _ 0 _ _ _ c9]; rfl
  have rA : wA.cell? ⟨w7.heap.size + 2, 0, none⟩ = some (.int .i64 0) := by rw [cell_of_row _ _ 0 _ _ _ yA]; rfl
  have f8 : wA.frozen? ⟨w7.heap.size, 0, none⟩ = false := frozen_of_row _ _ _ _ _ c8
  have f9 : wA.frozen? ⟨w7.heap.size + 1, 0, none⟩ = false := frozen_of_row _ _ _ _ _ c9
  have fA : wA.frozen? ⟨w7.heap.size + 2, 0, none⟩ = false := frozen_of_row _ _ _ _ _ yA
  have CE := Lib.hid (fun (x y z : Nat) (t : TypeId) (x0 : w7.heap.size ≤ x) (x3 : x < w7.heap.size + 3) (y0 : w7.heap.size ≤ y) (y3 : y < w7.heap.size + 3) (z0 : w7.heap.size ≤ z) (z3 : z < w7.heap.size + 3) (xy : x ≠ y) (xz : x ≠ z) (yz : y ≠ z) => cks_end a c T hf ok (t := t) (B := w.heap.size) (b7.trans (b7A.mono b7.size)) ((b7A.block _ s7).trans c7) h (Nat.le_refl _) rfl (by omega) (by omega) (by omega) (bx3 x x0 x3) (bx3 y y0 y3) (bx3 z z0 z3) xy xz yz)
  have n1 : w7.heap.size + 1 ≠ w7.heap.size := by omega
  have n2 : w7.heap.size + 2 ≠ w7.heap.size := by omega
  have n3 : w7.heap.size + 2 ≠ w7.heap.size + 1 := by omega
  have n4 : w7.heap.size ≠ w7.heap.size + 1 := by omega
  have n5 : w7.heap.size ≠ w7.heap.size + 2 := by omega
  have n6 : w7.heap.size + 1 ≠ w7.heap.size + 2 := by omega
  clear bx3 hf ok b7 c7 h y8 y9 yA c8 c9 b7A b8 b9 bA
  go_enter Tryz.func14, Tryz.ntmps14
  go_wp2_with fail
  go_region
  all_goals
    go_wp2_with fail
    go_ret
    exact ⟨_, rfl, CE.out _ _ _ _ (by omega) (by omega) (by omega) (by omega) (by omega) (by omega) (by omega) (by omega) (by omega)⟩
set_option maxRecDepth 100000 in
set_option maxHeartbeats 2000000 in
theorem ckC : CkC := by
  intro a c T w hf ok _ h
  obtain ⟨w7, hw7⟩ : ∃ W, w.alloc (boxTt a c T) = W := ⟨_, rfl⟩
  obtain ⟨b7, s7, c7⟩ := box_tt hw7
  obtain ⟨p0, p1, p2, p3, p4, p5, p6, p7, p8, p9, p10, p11, p12⟩ := row_tt c7
  have C1 := Lib.hid (checks_any a c T hf ok w7 (h.below b7))
  have B7 := Lib.hid b7
  obtain ⟨V, hV⟩ : ∃ q, ttC T = q := ⟨_, rfl⟩
  rw [hV]
  have HV : Hid (V = ttF (partT T) 0 10) := Lib.hid hV.symm
  clear hV b7 c7 h s7 hf ok
  go_enter Tryz.func8, Tryz.ntmps8
  go_wp2_with fail
  refine C1.out.mono ?_
  rintro e w8 ⟨v, rfl, ⟨G, o, rfl, gG, KK⟩, b8⟩
  have KK := Lib.hid KK
  have GG : Hid (G < w8.heap.size) := Lib.hid gG
  have B8 := Lib.hid (B7.out.trans (b8.mono B7.out.size))
  clear b8 C1 p0 p1 p2 p3 p4 p5 p6 p7 p8 p9 p10 p11 p12 B7 gG hw7
  go_wp2_with fail
  go_loopw [12] (fun i wr => ∃ k : Nat, i = .int .i64 k ∧ k ≤ 10 ∧ Hid (V = ttF (partT T) k (10 - k)) ∧ Hid (Below w8.heap.size w8 wr)) (fun i _ => 10 - (intOf i).toNat)
  case atStart => exact ⟨0, rfl, Nat.zero_le _, HV, Lib.hid (Below.refl _ _)⟩
  case round =>
    clear HV
    obtain ⟨k, rfl, hk, he, HB⟩ := hrel
    by_cases hlt : k < 10
    · obtain ⟨K, caps, hcell, hent, hcall⟩ := KK.out k hlt
      have m1 := (HB.out.cell (p := ⟨G, o + k, none⟩) GG.out).trans hcell
      have C2 := Lib.hid (hcall wr HB.out)
      obtain ⟨⟨x, y⟩, q⟩ : ∃ q, partT T k = q := ⟨_, rfl⟩
      rw [q] at C2
      have gk : (k : Int) < 10 := by omega
      obtain ⟨r, hr⟩ : ∃ r, 10 - k = r + 1 := ⟨9 - k, by omega⟩
      by_cases hy : y = 0
      · have d0 : (y != 0) = false := neq_false hy
        have N : Hid (V = ttF (partT T) (k + 1) (10 - (k + 1))) := Lib.hid (by rw [he.out, hr, tt_next (by rw [q]; exact hy)]; congr 1; omega)
        clear hcell hcall he q hr hlt hk hy
        go_wp2_with fail
        refine C2.out.mono ?_
        rintro e w9 ⟨rfl, b9⟩
        have B9 := Lib.hid (HB.out.trans (b9.mono HB.out.size))
        clear b9 C2 HB m1 hent
        go_wp2_with fail
        go_roundw
        case rel => exact ⟨k + 1, by go_num, by omega, N, B9⟩
        case measure => simp [intOf]; omega
      · have d0 : (y != 0) = true := bne_true hy
        have R : Hid (V = ((k : Int), x, y)) := Lib.hid (by rw [he.out, hr, tt_stop (by rw [q]; exact hy), q])
        clear hcell hcall he q hr hlt hk hy
        go_wp2_with fail
        refine C2.out.mono ?_
        rintro e w9 ⟨rfl, b9⟩
        have B9 := Lib.hid (HB.out.trans (b9.mono HB.out.size))
        clear b9 C2 HB m1 hent
        go_wp2_with fail
        go_ret3
        exact ⟨by rw [R.out]; rfl, B8.out.trans (B9.out.mono B8.out.size)⟩
    · have dk : decide ((k : Int) < 10) = false := by simp; omega
      have R : Hid (V = (0, 0, 0)) := Lib.hid (by rw [he.out, show 10 - k = 0 by omega]; rfl)
      clear he hlt hk
      go_wp2_with fail
      go_ret3
      exact ⟨by rw [R.out]; rfl, B8.out.trans (HB.out.mono B8.out.size)⟩
end Go.Proofs.YtkhalnjgbdpfhaaGreat
