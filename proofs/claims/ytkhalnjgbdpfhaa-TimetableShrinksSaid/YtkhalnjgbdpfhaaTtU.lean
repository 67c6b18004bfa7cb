/-
  upper and lower of the laws of timetables: what each call answers; nothing that existed before the call has changed behind it. Condition: few elements, numbers of 64 bits.
-/
import Derived.Test.YtkhalnjgbdpfhaaTtX
namespace Go.Proofs.Ytkhalnjgbdpfhaa
open Go.RowKit

/-- What upper answers. -/
def upT (T : Tt) : Bool := decide ((partT T 0).2 = 0 ∧ (partT T 1).2 = 0 ∧ (partT T 2).2 = 0 ∧ (partT T 3).2 = 0 ∧ (partT T 4).2 = 0)
set_option maxRecDepth 100000 in
set_option maxHeartbeats 4000000 in
theorem up_any (a : Nat → Option Addr) (c : Nat → Nat) (T : Tt) (hf : fewT T = true) (ok : OkTt T) (w : World) (h : TtL w a c T) : Calls Try.prog 11 #[ttV a c T] w fun e w' => e = .returned (.bool (upT T)) ∧ Below w.heap.size w w' := by
  obtain ⟨w7, hw7⟩ : ∃ W, w.alloc (boxTt a c T) = W := ⟨_, rfl⟩
  obtain ⟨b7, s7, c7⟩ := box_tt hw7
  obtain ⟨p0, p1, p2, p3, p4, p5, p6, p7, p8, p9, p10, p11, p12⟩ := row_tt c7
  have B7 := Lib.hid b7
  have C7 := Lib.hid c7
  have LA : Hid (w.heap.size < w7.heap.size) := Lib.hid s7
  have H := Lib.hid (fun W (hW : Below w7.heap.size w7 W) => (h.below b7).below hW)
  obtain ⟨⟨f0, f1, f2, f3, f4, f5, f6, f7, f8, f9⟩, hts0⟩ := few_iff.1 hf
  have hts : ∀ x ∈ T.tr, (clT x).length ≤ 1000000 := fun x hx => by have := hts0 x hx; omega
  have HB : Hid (Below w7.heap.size w7 w7) := Lib.hid (Below.refl _ _)
  have K0 := Lib.hid (fun W (hW : Below w7.heap.size w7 W) => S13.kcheck_all (.slice (a 0) T.st.length (c 0)) T.st (by omega) W (H.out W hW).st)
  obtain ⟨⟨x0, y0⟩, q0⟩ : ∃ q, partT T 0 = q := ⟨_, rfl⟩
  have e0 : S13.chkT T.st = (x0, y0) := q0
  rw [e0] at K0
  have K1 := Lib.hid (fun W (hW : Below w7.heap.size w7 W) => S15.kcheck_any (.slice (a 1) T.ro.length (c 1)) T.ro (by omega) W (H.out W hW).ro)
  obtain ⟨⟨x1, y1⟩, q1⟩ : ∃ q, partT T 1 = q := ⟨_, rfl⟩
  have e1 : chkR T.ro = (x1, y1) := q1
  rw [e1] at K1
  have K2 := Lib.hid (fun W (hW : Below w7.heap.size w7 W) => S14.kcheck_all (.slice (a 2) T.ca.length (c 2)) T.ca (by omega) W (H.out W hW).ca)
  obtain ⟨⟨x2, y2⟩, q2⟩ : ∃ q, partT T 2 = q := ⟨_, rfl⟩
  have e2 : S14.chkC T.ca = (x2, y2) := q2
  rw [e2] at K2
  have K3 := Lib.hid (fun W (hW : Below w7.heap.size w7 W) => S14.kcx_any (.slice (a 3) T.ex.length (c 3)) T.ex T.ca.length (by omega) ok.1 W (H.out W hW).ex)
  obtain ⟨⟨x3, y3⟩, q3⟩ : ∃ q, partT T 3 = q := ⟨_, rfl⟩
  have e3 : S14.chkX T.ca.length T.ex = (x3, y3) := q3
  rw [e3] at K3
  have K4 := Lib.hid (fun W (hW : Below w7.heap.size w7 W) => S17.ktck_any (.slice (a 4) T.tr.length (c 4)) T.tr (by omega) T.st.length T.ro.length T.ca.length W (H.out W hW).tr)
  obtain ⟨⟨x4, y4⟩, q4⟩ : ∃ q, partT T 4 = q := ⟨_, rfl⟩
  have e4 : S17.chkT T.st.length T.ro.length T.ca.length T.tr = (x4, y4) := q4
  rw [e4] at K4
  obtain ⟨V, hV⟩ : ∃ q, upT T = q := ⟨_, rfl⟩
  rw [hV]
  unfold upT at hV
  rw [q0, q1, q2, q3, q4] at hV
  have HV := Lib.hid hV
  clear c7 s7 b7 h hf f0 f1 f2 f3 f4 f5 f6 f7 f8 f9 hts hts0 H hV e0 q0 e1 q1 e2 q2 e3 q3 e4 q4
  go_enter Try.func11, Try.ntmps11
  go_wp2_with fail
  refine (K0.out w7 HB.out).mono ?_
  rintro e w8 ⟨rfl, bw8⟩
  replace HB := Lib.hid (HB.out.trans (bw8.mono HB.out.size))
  clear bw8 p0 p1 p2 p3 p4 p5 p6 p7 p8 p9 p10 p11 p12
  obtain ⟨p0, p1, p2, p3, p4, p5, p6, p7, p8, p9, p10, p11, p12⟩ := row_tt ((HB.out.block _ LA.out).trans C7.out)
  go_wp2_with fail
  refine (K1.out w8 HB.out).mono ?_
  rintro e w9 ⟨rfl, bw9⟩
  replace HB := Lib.hid (HB.out.trans (bw9.mono HB.out.size))
  clear bw9 p0 p1 p2 p3 p4 p5 p6 p7 p8 p9 p10 p11 p12
  obtain ⟨p0, p1, p2, p3, p4, p5, p6, p7, p8, p9, p10, p11, p12⟩ := row_tt ((HB.out.block _ LA.out).trans C7.out)
  go_wp2_with fail
  refine (K2.out w9 HB.out).mono ?_
  rintro e w10 ⟨rfl, bw10⟩
  replace HB := Lib.hid (HB.out.trans (bw10.mono HB.out.size))
  clear bw10 p0 p1 p2 p3 p4 p5 p6 p7 p8 p9 p10 p11 p12
  obtain ⟨p0, p1, p2, p3, p4, p5, p6, p7, p8, p9, p10, p11, p12⟩ := row_tt ((HB.out.block _ LA.out).trans C7.out)
  go_wp2_with fail
  refine (K3.out w10 HB.out).mono ?_
  rintro e w11 ⟨rfl, bw11⟩
  replace HB := Lib.hid (HB.out.trans (bw11.mono HB.out.size))
  clear bw11 p0 p1 p2 p3 p4 p5 p6 p7 p8 p9 p10 p11 p12
  obtain ⟨p0, p1, p2, p3, p4, p5, p6, p7, p8, p9, p10, p11, p12⟩ := row_tt ((HB.out.block _ LA.out).trans C7.out)
  go_wp2_with fail
  refine (K4.out w11 HB.out).mono ?_
  rintro e w12 ⟨rfl, bw12⟩
  replace HB := Lib.hid (HB.out.trans (bw12.mono HB.out.size))
  clear bw12 p0 p1 p2 p3 p4 p5 p6 p7 p8 p9 p10 p11 p12
  by_cases n0 : y0 = 0
  case neg =>
    have R : Hid (V = false) := Lib.hid (by rw [← HV.out]; exact decide_eq_false (fun g => n0 g.1))
    have g0 : (y0 == 0) = false := by simpa using n0
    clear n0
    go_wp2_with fail
    go_ret
    exact ⟨ret_bool R.out.symm, B7.out.trans (HB.out.mono B7.out.size)⟩
  have g0 : (y0 == 0) = true := by simpa using n0
  by_cases n1 : y1 = 0
  case neg =>
    have R : Hid (V = false) := Lib.hid (by rw [← HV.out]; exact decide_eq_false (fun g => n1 g.2.1))
    have g1 : (y1 == 0) = false := by simpa using n1
    clear n0 n1
    go_wp2_with fail
    go_ret
    exact ⟨ret_bool R.out.symm, B7.out.trans (HB.out.mono B7.out.size)⟩
  have g1 : (y1 == 0) = true := by simpa using n1
  by_cases n2 : y2 = 0
  case neg =>
    have R : Hid (V = false) := Lib.hid (by rw [← HV.out]; exact decide_eq_false (fun g => n2 g.2.2.1))
    have g2 : (y2 == 0) = false := by simpa using n2
    clear n0 n1 n2
    go_wp2_with fail
    go_ret
    exact ⟨ret_bool R.out.symm, B7.out.trans (HB.out.mono B7.out.size)⟩
  have g2 : (y2 == 0) = true := by simpa using n2
  by_cases n3 : y3 = 0
  case neg =>
    have R : Hid (V = false) := Lib.hid (by rw [← HV.out]; exact decide_eq_false (fun g => n3 g.2.2.2.1))
    have g3 : (y3 == 0) = false := by simpa using n3
    clear n0 n1 n2 n3
    go_wp2_with fail
    go_ret
    exact ⟨ret_bool R.out.symm, B7.out.trans (HB.out.mono B7.out.size)⟩
  have g3 : (y3 == 0) = true := by simpa using n3
  by_cases n4 : y4 = 0
  case neg =>
    have R : Hid (V = false) := Lib.hid (by rw [← HV.out]; exact decide_eq_false (fun g => n4 g.2.2.2.2))
    have g4 : (y4 == 0) = false := by simpa using n4
    clear n0 n1 n2 n3 n4
    go_wp2_with fail
    go_ret
    exact ⟨ret_bool R.out.symm, B7.out.trans (HB.out.mono B7.out.size)⟩
  have g4 : (y4 == 0) = true := by simpa using n4
  have R : Hid (V = true) := Lib.hid (by rw [← HV.out]; exact decide_eq_true ⟨n0, n1, n2, n3, n4⟩)
  clear n0 n1 n2 n3 n4
  go_wp2_with fail
  go_ret
  exact ⟨ret_bool R.out.symm, B7.out.trans (HB.out.mono B7.out.size)⟩
/-- What lower answers. -/
def loT (T : Tt) : Bool := decide ((partT T 5).2 = 0 ∧ (partT T 6).2 = 0 ∧ (partT T 7).2 = 0 ∧ (partT T 8).2 = 0 ∧ (partT T 9).2 = 0)
set_option maxRecDepth 100000 in
set_option maxHeartbeats 4000000 in
theorem lo_any (a : Nat → Option Addr) (c : Nat → Nat) (T : Tt) (hf : fewT T = true) (ok : OkTt T) (w : World) (h : TtL w a c T) : Calls Try.prog 12 #[ttV a c T] w fun e w' => e = .returned (.bool (loT T)) ∧ Below w.heap.size w w' := by
  obtain ⟨w7, hw7⟩ : ∃ W, w.alloc (boxTt a c T) = W := ⟨_, rfl⟩
  obtain ⟨b7, s7, c7⟩ := box_tt hw7
  obtain ⟨p0, p1, p2, p3, p4, p5, p6, p7, p8, p9, p10, p11, p12⟩ := row_tt c7
  have B7 := Lib.hid b7
  have C7 := Lib.hid c7
  have LA : Hid (w.heap.size < w7.heap.size) := Lib.hid s7
  have H := Lib.hid (fun W (hW : Below w7.heap.size w7 W) => (h.below b7).below hW)
  obtain ⟨⟨f0, f1, f2, f3, f4, f5, f6, f7, f8, f9⟩, hts0⟩ := few_iff.1 hf
  have hts : ∀ x ∈ T.tr, (clT x).length ≤ 1000000 := fun x hx => by have := hts0 x hx; omega
  have HB : Hid (Below w7.heap.size w7 w7) := Lib.hid (Below.refl _ _)
  have K0 := Lib.hid (fun W (hW : Below w7.heap.size w7 W) => S18.kchk_any (.slice (a 5) T.fr.length (c 5)) T.fr (by omega) (.slice (a 4) T.tr.length (c 4)) T.tr hts W (H.out W hW).fr (H.out W hW).tr)
  obtain ⟨⟨x0, y0⟩, q0⟩ : ∃ q, partT T 5 = q := ⟨_, rfl⟩
  have e0 : chkF (T.tr.map clT) T.fr = (x0, y0) := q0
  rw [e0] at K0
  have K1 := Lib.hid (fun W (hW : Below w7.heap.size w7 W) => S19.kchkh_any (.slice (a 6) T.th.length (c 6)) T.th (by omega) ok.2.1 (.slice (a 4) T.tr.length (c 4)) T.tr hts (.slice (a 5) T.fr.length (c 5)) T.fr (by omega) W (H.out W hW).th (H.out W hW).tr (H.out W hW).fr)
  obtain ⟨⟨x1, y1⟩, q1⟩ : ∃ q, partT T 6 = q := ⟨_, rfl⟩
  have e1 : S19.chkH (T.tr.map S19.tcT) T.fr T.th = (x1, y1) := q1
  rw [e1] at K1
  have K2 := Lib.hid (fun W (hW : Below w7.heap.size w7 W) => S19.kchku_any (.slice (a 7) T.gu.length (c 7)) T.gu (by omega) ok.2.2.1 (.slice (a 4) T.tr.length (c 4)) T.tr hts (.slice (a 5) T.fr.length (c 5)) T.fr (by omega) T.st.length W (H.out W hW).gu (H.out W hW).tr (H.out W hW).fr)
  obtain ⟨⟨x2, y2⟩, q2⟩ : ∃ q, partT T 7 = q := ⟨_, rfl⟩
  have e2 : S19.chkU (T.tr.map S19.tcT) T.fr T.st.length T.gu = (x2, y2) := q2
  rw [e2] at K2
  have K3 := Lib.hid (fun W (hW : Below w7.heap.size w7 W) => S20.kchk_any (.slice (a 8) T.pa.length (c 8)) T.pa (by omega) T.st.length ok.2.2.2 W (H.out W hW).pa)
  obtain ⟨⟨x3, y3⟩, q3⟩ : ∃ q, partT T 8 = q := ⟨_, rfl⟩
  have e3 : S20.chkP T.st.length T.pa = (x3, y3) := q3
  rw [e3] at K3
  have K4 := Lib.hid (fun W (hW : Below w7.heap.size w7 W) => S21.kcheck_any (.slice (a 9) T.pr.length (c 9)) T.pr T.di T.wi T.cp (by omega) W (H.out W hW).pr)
  obtain ⟨⟨x4, y4⟩, q4⟩ : ∃ q, partT T 9 = q := ⟨_, rfl⟩
  have e4 : S21.chkPd T.di T.wi T.cp T.pr = (x4, y4) := q4
  rw [e4] at K4
  obtain ⟨V, hV⟩ : ∃ q, loT T = q := ⟨_, rfl⟩
  rw [hV]
  unfold loT at hV
  rw [q0, q1, q2, q3, q4] at hV
  have HV := Lib.hid hV
  clear c7 s7 b7 h hf f0 f1 f2 f3 f4 f5 f6 f7 f8 f9 hts hts0 H hV e0 q0 e1 q1 e2 q2 e3 q3 e4 q4
  go_enter Try.func12, Try.ntmps12
  go_wp2_with fail
  refine (K0.out w7 HB.out).mono ?_
  rintro e w8 ⟨rfl, bw8⟩
  replace HB := Lib.hid (HB.out.trans (bw8.mono HB.out.size))
  clear bw8 p0 p1 p2 p3 p4 p5 p6 p7 p8 p9 p10 p11 p12
  obtain ⟨p0, p1, p2, p3, p4, p5, p6, p7, p8, p9, p10, p11, p12⟩ := row_tt ((HB.out.block _ LA.out).trans C7.out)
  go_wp2_with fail
  refine (K1.out w8 HB.out).mono ?_
  rintro e w9 ⟨rfl, bw9⟩
  replace HB := Lib.hid (HB.out.trans (bw9.mono HB.out.size))
  clear bw9 p0 p1 p2 p3 p4 p5 p6 p7 p8 p9 p10 p11 p12
  obtain ⟨p0, p1, p2, p3, p4, p5, p6, p7, p8, p9, p10, p11, p12⟩ := row_tt ((HB.out.block _ LA.out).trans C7.out)
  go_wp2_with fail
  refine (K2.out w9 HB.out).mono ?_
  rintro e w10 ⟨rfl, bw10⟩
  replace HB := Lib.hid (HB.out.trans (bw10.mono HB.out.size))
  clear bw10 p0 p1 p2 p3 p4 p5 p6 p7 p8 p9 p10 p11 p12
  obtain ⟨p0, p1, p2, p3, p4, p5, p6, p7, p8, p9, p10, p11, p12⟩ := row_tt ((HB.out.block _ LA.out).trans C7.out)
  go_wp2_with fail
  refine (K3.out w10 HB.out).mono ?_
  rintro e w11 ⟨rfl, bw11⟩
  replace HB := Lib.hid (HB.out.trans (bw11.mono HB.out.size))
  clear bw11 p0 p1 p2 p3 p4 p5 p6 p7 p8 p9 p10 p11 p12
  obtain ⟨p0, p1, p2, p3, p4, p5, p6, p7, p8, p9, p10, p11, p12⟩ := row_tt ((HB.out.block _ LA.out).trans C7.out)
  go_wp2_with fail
  refine (K4.out w11 HB.out).mono ?_
  rintro e w12 ⟨rfl, bw12⟩
  replace HB := Lib.hid (HB.out.trans (bw12.mono HB.out.size))
  clear bw12 p0 p1 p2 p3 p4 p5 p6 p7 p8 p9 p10 p11 p12
  by_cases n0 : y0 = 0
  case neg =>
    have R : Hid (V = false) := Lib.hid (by rw [← HV.out]; exact decide_eq_false (fun g => n0 g.1))
    have g0 : (y0 == 0) = false := by simpa using n0
    clear n0
    go_wp2_with fail
    go_ret
    exact ⟨ret_bool R.out.symm, B7.out.trans (HB.out.mono B7.out.size)⟩
  have g0 : (y0 == 0) = true := by simpa using n0
  by_cases n1 : y1 = 0
  case neg =>
    have R : Hid (V = false) := Lib.hid (by rw [← HV.out]; exact decide_eq_false (fun g => n1 g.2.1))
    have g1 : (y1 == 0) = false := by simpa using n1
    clear n0 n1
    go_wp2_with fail
    go_ret
    exact ⟨ret_bool R.out.symm, B7.out.trans (HB.out.mono B7.out.size)⟩
  have g1 : (y1 == 0) = true := by simpa using n1
  by_cases n2 : y2 = 0
  case neg =>
    have R : Hid (V = false) := Lib.hid (by rw [← HV.out]; exact decide_eq_false (fun g => n2 g.2.2.1))
    have g2 : (y2 == 0) = false := by simpa using n2
    clear n0 n1 n2
    go_wp2_with fail
    go_ret
    exact ⟨ret_bool R.out.symm, B7.out.trans (HB.out.mono B7.out.size)⟩
  have g2 : (y2 == 0) = true := by simpa using n2
  by_cases n3 : y3 = 0
  case neg =>
    have R : Hid (V = false) := Lib.hid (by rw [← HV.out]; exact decide_eq_false (fun g => n3 g.2.2.2.1))
    have g3 : (y3 == 0) = false := by simpa using n3
    clear n0 n1 n2 n3
    go_wp2_with fail
    go_ret
    exact ⟨ret_bool R.out.symm, B7.out.trans (HB.out.mono B7.out.size)⟩
  have g3 : (y3 == 0) = true := by simpa using n3
  by_cases n4 : y4 = 0
  case neg =>
    have R : Hid (V = false) := Lib.hid (by rw [← HV.out]; exact decide_eq_false (fun g => n4 g.2.2.2.2))
    have g4 : (y4 == 0) = false := by simpa using n4
    clear n0 n1 n2 n3 n4
    go_wp2_with fail
    go_ret
    exact ⟨ret_bool R.out.symm, B7.out.trans (HB.out.mono B7.out.size)⟩
  have g4 : (y4 == 0) = true := by simpa using n4
  have R : Hid (V = true) := Lib.hid (by rw [← HV.out]; exact decide_eq_true ⟨n0, n1, n2, n3, n4⟩)
  clear n0 n1 n2 n3 n4
  go_wp2_with fail
  go_ret
  exact ⟨ret_bool R.out.symm, B7.out.trans (HB.out.mono B7.out.size)⟩
end Go.Proofs.Ytkhalnjgbdpfhaa
