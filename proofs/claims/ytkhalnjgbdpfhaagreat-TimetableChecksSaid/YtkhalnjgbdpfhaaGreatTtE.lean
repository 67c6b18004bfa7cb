/-
  Equal of the reference of timetables: what the call answers; nothing that existed before the call has changed behind it. Condition: few elements of the first timetable.
-/
import Derived.Test.YtkhalnjgbdpfhaaGreatTtH
import Derived.Test.YtkhalnjgbdpfhaaGreatTtT
namespace Go.Proofs.YtkhalnjgbdpfhaaGreat
open Go.RowKit

theorem eqT_h {T U : Tt} (h : hdT T U = false) : eqT T U = false := by unfold eqT; rw [h]; rfl
theorem eqT_t {T U : Tt} (h : eqB eTr T.tr U.tr = false) : eqT T U = false := by unfold eqT; rw [h]; simp
theorem eqT_l {T U : Tt} (h : tlT T U = false) : eqT T U = false := by unfold eqT; rw [h]; simp
theorem eqT_n {T U : Tt} (h : ¬ (T.di = U.di ∧ T.wi = U.wi ∧ T.cp = U.cp)) : eqT T U = false := by unfold eqT; rw [decide_eq_false h]; simp
theorem eqT_y {T U : Tt} (h : hdT T U = true) (h2 : eqB eTr T.tr U.tr = true) (h3 : tlT T U = true) (h4 : T.di = U.di ∧ T.wi = U.wi ∧ T.cp = U.cp) : eqT T U = true := by unfold eqT; rw [h, h2, h3, decide_eq_true h4]; rfl
set_option maxRecDepth 100000 in
set_option maxHeartbeats 4000000 in
theorem rtte_any (a a' : Nat → Option Addr) (c c' : Nat → Nat) (T U : Tt) (hf : fewN T) (w : World) (h : TtL w a c T) (h' : TtL w a' c' U) : Calls Tryz.prog 11 #[ttV a c T, ttV a' c' U] w fun e w' => e = .returned (.bool (eqT T U)) ∧ Below w.heap.size w w' := by
  obtain ⟨w7, hw7, z7, ra, rb, b7⟩ := box_both w (boxTt a c T) (boxTt a' c' U)
  obtain ⟨p0, p1, p2, p3, p4, p5, p6, p7, p8, p9, p10, p11, p12⟩ := row_tt ra
  obtain ⟨q0, q1, q2, q3, q4, q5, q6, q7, q8, q9, q10, q11, q12⟩ := row_tt rb
  have B7 := Lib.hid b7
  have C1 := Lib.hid (fun W (hW : Below w7.heap.size w7 W) => hd_any a a' c c' T U hf W ((h.below b7).below hW) ((h'.below b7).below hW))
  have C2 := Lib.hid (fun W (hW : Below w7.heap.size w7 W) => rtrips_any (.slice (a 4) T.tr.length (c 4)) (.slice (a' 4) U.tr.length (c' 4)) T.tr U.tr (by have := hf.2.2.2.2.1; omega) W ((h.below b7).tr.below hW) ((h'.below b7).tr.below hW))
  have C3 := Lib.hid (fun W (hW : Below w7.heap.size w7 W) => tl_any a a' c c' T U hf W ((h.below b7).below hW) ((h'.below b7).below hW))
  have RA := Lib.hid ra
  have RB := Lib.hid rb
  have LA : Hid (w.heap.size < w7.heap.size) := Lib.hid (by omega)
  have LB : Hid (w.heap.size + 1 < w7.heap.size) := Lib.hid (by omega)
  obtain ⟨V, hV⟩ : ∃ q, eqT T U = q := ⟨_, rfl⟩
  rw [hV]
  have HV := Lib.hid hV
  obtain ⟨x1, hx1⟩ : ∃ q, hdT T U = q := ⟨_, rfl⟩
  obtain ⟨x2, hx2⟩ : ∃ q, eqB eTr T.tr U.tr = q := ⟨_, rfl⟩
  obtain ⟨x3, hx3⟩ : ∃ q, tlT T U = q := ⟨_, rfl⟩
  rw [hx1] at C1
  rw [hx2] at C2
  rw [hx3] at C3
  have X1 := Lib.hid hx1
  have X2 := Lib.hid hx2
  have X3 := Lib.hid hx3
  clear hV b7 ra rb z7 h h' hf hx1 hx2 hx3
  cases x1
  · have R : Hid (V = false) := Lib.hid (by rw [← HV.out]; exact eqT_h X1.out)
    clear X2 X3 C2 C3
    go_enter Tryz.func11, Tryz.ntmps11
    go_wp2_with fail
    refine (C1.out w7 (Below.refl _ _)).mono ?_
    rintro e w8 ⟨rfl, b8⟩
    have B8 := Lib.hid (b8)
    clear b8
    clear p0 p1 p2 p3 p4 p5 p6 p7 p8 p9 p10 p11 p12 q0 q1 q2 q3 q4 q5 q6 q7 q8 q9 q10 q11 q12
    obtain ⟨p0, p1, p2, p3, p4, p5, p6, p7, p8, p9, p10, p11, p12⟩ := row_tt ((B8.out.block _ LA.out).trans RA.out)
    obtain ⟨q0, q1, q2, q3, q4, q5, q6, q7, q8, q9, q10, q11, q12⟩ := row_tt ((B8.out.block _ LB.out).trans RB.out)
    go_wp2_with fail
    go_ret
    exact ⟨ret_bool R.out.symm, B7.out.trans (B8.out.mono B7.out.size)⟩
  cases x2
  · have R : Hid (V = false) := Lib.hid (by rw [← HV.out]; exact eqT_t X2.out)
    clear X3 C3
    go_enter Tryz.func11, Tryz.ntmps11
    go_wp2_with fail
    refine (C1.out w7 (Below.refl _ _)).mono ?_
    rintro e w8 ⟨rfl, b8⟩
    have B8 := Lib.hid (b8)
    clear b8
    clear p0 p1 p2 p3 p4 p5 p6 p7 p8 p9 p10 p11 p12 q0 q1 q2 q3 q4 q5 q6 q7 q8 q9 q10 q11 q12
    obtain ⟨p0, p1, p2, p3, p4, p5, p6, p7, p8, p9, p10, p11, p12⟩ := row_tt ((B8.out.block _ LA.out).trans RA.out)
    obtain ⟨q0, q1, q2, q3, q4, q5, q6, q7, q8, q9, q10, q11, q12⟩ := row_tt ((B8.out.block _ LB.out).trans RB.out)
    go_wp2_with fail
    refine (C2.out w8 B8.out).mono ?_
    rintro e w9 ⟨rfl, b9⟩
    replace b9 := drew_below b9
    have B9 := Lib.hid (B8.out.trans (b9.mono B8.out.size))
    clear b9
    clear p0 p1 p2 p3 p4 p5 p6 p7 p8 p9 p10 p11 p12 q0 q1 q2 q3 q4 q5 q6 q7 q8 q9 q10 q11 q12
    obtain ⟨p0, p1, p2, p3, p4, p5, p6, p7, p8, p9, p10, p11, p12⟩ := row_tt ((B9.out.block _ LA.out).trans RA.out)
    obtain ⟨q0, q1, q2, q3, q4, q5, q6, q7, q8, q9, q10, q11, q12⟩ := row_tt ((B9.out.block _ LB.out).trans RB.out)
    go_wp2_with fail
    go_ret
    exact ⟨ret_bool R.out.symm, B7.out.trans (B9.out.mono B7.out.size)⟩
  cases x3
  · have R : Hid (V = false) := Lib.hid (by rw [← HV.out]; exact eqT_l X3.out)
    go_enter Tryz.func11, Tryz.ntmps11
    go_wp2_with fail
    refine (C1.out w7 (Below.refl _ _)).mono ?_
    rintro e w8 ⟨rfl, b8⟩
    have B8 := Lib.hid (b8)
    clear b8
    clear p0 p1 p2 p3 p4 p5 p6 p7 p8 p9 p10 p11 p12 q0 q1 q2 q3 q4 q5 q6 q7 q8 q9 q10 q11 q12
    obtain ⟨p0, p1, p2, p3, p4, p5, p6, p7, p8, p9, p10, p11, p12⟩ := row_tt ((B8.out.block _ LA.out).trans RA.out)
    obtain ⟨q0, q1, q2, q3, q4, q5, q6, q7, q8, q9, q10, q11, q12⟩ := row_tt ((B8.out.block _ LB.out).trans RB.out)
    go_wp2_with fail
    refine (C2.out w8 B8.out).mono ?_
    rintro e w9 ⟨rfl, b9⟩
    replace b9 := drew_below b9
    have B9 := Lib.hid (B8.out.trans (b9.mono B8.out.size))
    clear b9
    clear p0 p1 p2 p3 p4 p5 p6 p7 p8 p9 p10 p11 p12 q0 q1 q2 q3 q4 q5 q6 q7 q8 q9 q10 q11 q12
    obtain ⟨p0, p1, p2, p3, p4, p5, p6, p7, p8, p9, p10, p11, p12⟩ := row_tt ((B9.out.block _ LA.out).trans RA.out)
    obtain ⟨q0, q1, q2, q3, q4, q5, q6, q7, q8, q9, q10, q11, q12⟩ := row_tt ((B9.out.block _ LB.out).trans RB.out)
    go_wp2_with fail
    refine (C3.out w9 B9.out).mono ?_
    rintro e w10 ⟨rfl, b10⟩
    have B10 := Lib.hid (B9.out.trans (b10.mono B9.out.size))
    clear b10
    clear p0 p1 p2 p3 p4 p5 p6 p7 p8 p9 p10 p11 p12 q0 q1 q2 q3 q4 q5 q6 q7 q8 q9 q10 q11 q12
    obtain ⟨p0, p1, p2, p3, p4, p5, p6, p7, p8, p9, p10, p11, p12⟩ := row_tt ((B10.out.block _ LA.out).trans RA.out)
    obtain ⟨q0, q1, q2, q3, q4, q5, q6, q7, q8, q9, q10, q11, q12⟩ := row_tt ((B10.out.block _ LB.out).trans RB.out)
    go_wp2_with fail
    go_ret
    exact ⟨ret_bool R.out.symm, B7.out.trans (B10.out.mono B7.out.size)⟩
  by_cases g1 : T.di = U.di
  case neg =>
    have R : Hid (V = false) := Lib.hid (by rw [← HV.out]; exact eqT_n (fun g => g1 g.1))
    have e1 : (T.di == U.di) = false := by simpa using g1
    clear g1
    go_enter Tryz.func11, Tryz.ntmps11
    go_wp2_with fail
    refine (C1.out w7 (Below.refl _ _)).mono ?_
    rintro e w8 ⟨rfl, b8⟩
    have B8 := Lib.hid (b8)
    clear b8
    clear p0 p1 p2 p3 p4 p5 p6 p7 p8 p9 p10 p11 p12 q0 q1 q2 q3 q4 q5 q6 q7 q8 q9 q10 q11 q12
    obtain ⟨p0, p1, p2, p3, p4, p5, p6, p7, p8, p9, p10, p11, p12⟩ := row_tt ((B8.out.block _ LA.out).trans RA.out)
    obtain ⟨q0, q1, q2, q3, q4, q5, q6, q7, q8, q9, q10, q11, q12⟩ := row_tt ((B8.out.block _ LB.out).trans RB.out)
    go_wp2_with fail
    refine (C2.out w8 B8.out).mono ?_
    rintro e w9 ⟨rfl, b9⟩
    replace b9 := drew_below b9
    have B9 := Lib.hid (B8.out.trans (b9.mono B8.out.size))
    clear b9
    clear p0 p1 p2 p3 p4 p5 p6 p7 p8 p9 p10 p11 p12 q0 q1 q2 q3 q4 q5 q6 q7 q8 q9 q10 q11 q12
    obtain ⟨p0, p1, p2, p3, p4, p5, p6, p7, p8, p9, p10, p11, p12⟩ := row_tt ((B9.out.block _ LA.out).trans RA.out)
    obtain ⟨q0, q1, q2, q3, q4, q5, q6, q7, q8, q9, q10, q11, q12⟩ := row_tt ((B9.out.block _ LB.out).trans RB.out)
    go_wp2_with fail
    refine (C3.out w9 B9.out).mono ?_
    rintro e w10 ⟨rfl, b10⟩
    have B10 := Lib.hid (B9.out.trans (b10.mono B9.out.size))
    clear b10
    clear p0 p1 p2 p3 p4 p5 p6 p7 p8 p9 p10 p11 p12 q0 q1 q2 q3 q4 q5 q6 q7 q8 q9 q10 q11 q12
    obtain ⟨p0, p1, p2, p3, p4, p5, p6, p7, p8, p9, p10, p11, p12⟩ := row_tt ((B10.out.block _ LA.out).trans RA.out)
    obtain ⟨q0, q1, q2, q3, q4, q5, q6, q7, q8, q9, q10, q11, q12⟩ := row_tt ((B10.out.block _ LB.out).trans RB.out)
    go_wp2_with fail
    go_ret
    exact ⟨ret_bool R.out.symm, B7.out.trans (B10.out.mono B7.out.size)⟩
  have e1 : (T.di == U.di) = true := by simpa using g1
  by_cases g2 : T.wi = U.wi
  case neg =>
    have R : Hid (V = false) := Lib.hid (by rw [← HV.out]; exact eqT_n (fun g => g2 g.2.1))
    have e2 : (T.wi == U.wi) = false := by simpa using g2
    clear g1 g2
    go_enter Tryz.func11, Tryz.ntmps11
    go_wp2_with fail
    refine (C1.out w7 (Below.refl _ _)).mono ?_
    rintro e w8 ⟨rfl, b8⟩
    have B8 := Lib.hid (b8)
    clear b8
    clear p0 p1 p2 p3 p4 p5 p6 p7 p8 p9 p10 p11 p12 q0 q1 q2 q3 q4 q5 q6 q7 q8 q9 q10 q11 q12
    obtain ⟨p0, p1, p2, p3, p4, p5, p6, p7, p8, p9, p10, p11, p12⟩ := row_tt ((B8.out.block _ LA.out).trans RA.out)
    obtain ⟨q0, q1, q2, q3, q4, q5, q6, q7, q8, q9, q10, q11, q12⟩ := row_tt ((B8.out.block _ LB.out).trans RB.out)
    go_wp2_with fail
    refine (C2.out w8 B8.out).mono ?_
    rintro e w9 ⟨rfl, b9⟩
    replace b9 := drew_below b9
    have B9 := Lib.hid (B8.out.trans (b9.mono B8.out.size))
    clear b9
    clear p0 p1 p2 p3 p4 p5 p6 p7 p8 p9 p10 p11 p12 q0 q1 q2 q3 q4 q5 q6 q7 q8 q9 q10 q11 q12
    obtain ⟨p0, p1, p2, p3, p4, p5, p6, p7, p8, p9, p10, p11, p12⟩ := row_tt ((B9.out.block _ LA.out).trans RA.out)
    obtain ⟨q0, q1, q2, q3, q4, q5, q6, q7, q8, q9, q10, q11, q12⟩ := row_tt ((B9.out.block _ LB.out).trans RB.out)
    go_wp2_with fail
    refine (C3.out w9 B9.out).mono ?_
    rintro e w10 ⟨rfl, b10⟩
    have B10 := Lib.hid (B9.out.trans (b10.mono B9.out.size))
    clear b10
    clear p0 p1 p2 p3 p4 p5 p6 p7 p8 p9 p10 p11 p12 q0 q1 q2 q3 q4 q5 q6 q7 q8 q9 q10 q11 q12
    obtain ⟨p0, p1, p2, p3, p4, p5, p6, p7, p8, p9, p10, p11, p12⟩ := row_tt ((B10.out.block _ LA.out).trans RA.out)
    obtain ⟨q0, q1, q2, q3, q4, q5, q6, q7, q8, q9, q10, q11, q12⟩ := row_tt ((B10.out.block _ LB.out).trans RB.out)
    go_wp2_with fail
    go_ret
    exact ⟨ret_bool R.out.symm, B7.out.trans (B10.out.mono B7.out.size)⟩
  have e2 : (T.wi == U.wi) = true := by simpa using g2
  by_cases g3 : T.cp = U.cp
  case neg =>
    have R : Hid (V = false) := Lib.hid (by rw [← HV.out]; exact eqT_n (fun g => g3 g.2.2))
    have e3 : (T.cp == U.cp) = false := by simpa using g3
    clear g1 g2 g3
    go_enter Tryz.func11, Tryz.ntmps11
    go_wp2_with fail
    refine (C1.out w7 (Below.refl _ _)).mono ?_
    rintro e w8 ⟨rfl, b8⟩
    have B8 := Lib.hid (b8)
    clear b8
    clear p0 p1 p2 p3 p4 p5 p6 p7 p8 p9 p10 p11 p12 q0 q1 q2 q3 q4 q5 q6 q7 q8 q9 q10 q11 q12
    obtain ⟨p0, p1, p2, p3, p4, p5, p6, p7, p8, p9, p10, p11, p12⟩ := row_tt ((B8.out.block _ LA.out).trans RA.out)
    obtain ⟨q0, q1, q2, q3, q4, q5, q6, q7, q8, q9, q10, q11, q12⟩ := row_tt ((B8.out.block _ LB.out).trans RB.out)
    go_wp2_with fail
    refine (C2.out w8 B8.out).mono ?_
    rintro e w9 ⟨rfl, b9⟩
    replace b9 := drew_below b9
    have B9 := Lib.hid (B8.out.trans (b9.mono B8.out.size))
    clear b9
    clear p0 p1 p2 p3 p4 p5 p6 p7 p8 p9 p10 p11 p12 q0 q1 q2 q3 q4 q5 q6 q7 q8 q9 q10 q11 q12
    obtain ⟨p0, p1, p2, p3, p4, p5, p6, p7, p8, p9, p10, p11, p12⟩ := row_tt ((B9.out.block _ LA.out).trans RA.out)
    obtain ⟨q0, q1, q2, q3, q4, q5, q6, q7, q8, q9, q10, q11, q12⟩ := row_tt ((B9.out.block _ LB.out).trans RB.out)
    go_wp2_with fail
    refine (C3.out w9 B9.out).mono ?_
    rintro e w10 ⟨rfl, b10⟩
    have B10 := Lib.hid (B9.out.trans (b10.mono B9.out.size))
    clear b10
    clear p0 p1 p2 p3 p4 p5 p6 p7 p8 p9 p10 p11 p12 q0 q1 q2 q3 q4 q5 q6 q7 q8 q9 q10 q11 q12
    obtain ⟨p0, p1, p2, p3, p4, p5, p6, p7, p8, p9, p10, p11, p12⟩ := row_tt ((B10.out.block _ LA.out).trans RA.out)
    obtain ⟨q0, q1, q2, q3, q4, q5, q6, q7, q8, q9, q10, q11, q12⟩ := row_tt ((B10.out.block _ LB.out).trans RB.out)
    go_wp2_with fail
    go_ret
    exact ⟨ret_bool R.out.symm, B7.out.trans (B10.out.mono B7.out.size)⟩
  have e3 : (T.cp == U.cp) = true := by simpa using g3
  have R : Hid (V = true) := Lib.hid (by rw [← HV.out]; exact eqT_y X1.out X2.out X3.out ⟨g1, g2, g3⟩)
  clear g1 g2 g3
  go_enter Tryz.func11, Tryz.ntmps11
  go_wp2_with fail
  refine (C1.out w7 (Below.refl _ _)).mono ?_
  rintro e w8 ⟨rfl, b8⟩
  have B8 := Lib.hid (b8)
  clear b8
  clear p0 p1 p2 p3 p4 p5 p6 p7 p8 p9 p10 p11 p12 q0 q1 q2 q3 q4 q5 q6 q7 q8 q9 q10 q11 q12
  obtain ⟨p0, p1, p2, p3, p4, p5, p6, p7, p8, p9, p10, p11, p12⟩ := row_tt ((B8.out.block _ LA.out).trans RA.out)
  obtain ⟨q0, q1, q2, q3, q4, q5, q6, q7, q8, q9, q10, q11, q12⟩ := row_tt ((B8.out.block _ LB.out).trans RB.out)
  go_wp2_with fail
  refine (C2.out w8 B8.out).mono ?_
  rintro e w9 ⟨rfl, b9⟩
  replace b9 := drew_below b9
  have B9 := Lib.hid (B8.out.trans (b9.mono B8.out.size))
  clear b9
  clear p0 p1 p2 p3 p4 p5 p6 p7 p8 p9 p10 p11 p12 q0 q1 q2 q3 q4 q5 q6 q7 q8 q9 q10 q11 q12
  obtain ⟨p0, p1, p2, p3, p4, p5, p6, p7, p8, p9, p10, p11, p12⟩ := row_tt ((B9.out.block _ LA.out).trans RA.out)
  obtain ⟨q0, q1, q2, q3, q4, q5, q6, q7, q8, q9, q10, q11, q12⟩ := row_tt ((B9.out.block _ LB.out).trans RB.out)
  go_wp2_with fail
  refine (C3.out w9 B9.out).mono ?_
  rintro e w10 ⟨rfl, b10⟩
  have B10 := Lib.hid (B9.out.trans (b10.mono B9.out.size))
  clear b10
  clear p0 p1 p2 p3 p4 p5 p6 p7 p8 p9 p10 p11 p12 q0 q1 q2 q3 q4 q5 q6 q7 q8 q9 q10 q11 q12
  obtain ⟨p0, p1, p2, p3, p4, p5, p6, p7, p8, p9, p10, p11, p12⟩ := row_tt ((B10.out.block _ LA.out).trans RA.out)
  obtain ⟨q0, q1, q2, q3, q4, q5, q6, q7, q8, q9, q10, q11, q12⟩ := row_tt ((B10.out.block _ LB.out).trans RB.out)
  go_wp2_with fail
  go_ret
  exact ⟨ret_bool R.out.symm, B7.out.trans (B10.out.mono B7.out.size)⟩
end Go.Proofs.YtkhalnjgbdpfhaaGreat
