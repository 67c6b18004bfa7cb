/-
  part and Check of the reference of timetables: what each call answers; nothing that existed before the call has changed behind it. Condition: few elements (Few), numbers of 64 bits.
-/
import Derived.Test.YtkhalnjgbdpfhaaGreatTtF
namespace Go.Proofs.YtkhalnjgbdpfhaaGreat
open Go.RowKit

theorem ret_two' {x y : Int} {q : Int × Int} (h : q = (x, y)) : Ending.returned (.tuple #[.int .i64 x, .int .i64 y]) = .returned (.tuple #[.int .i64 q.1, .int .i64 q.2]) := by rw [h]
set_option maxRecDepth 100000 in
set_option maxHeartbeats 4000000 in
theorem rpart_0 (a : Nat → Option Addr) (c : Nat → Nat) (T : Tt) (hf : fewT T = true) (w : World) (h : TtL w a c T) : Calls Tryz.prog 15 #[ttV a c T, .int .i64 0] w fun e w' => e = .returned (.tuple #[.int .i64 ((partT T 0).1), .int .i64 ((partT T 0).2)]) ∧ Below w.heap.size w w' := by
  obtain ⟨w7, hw7⟩ : ∃ W, w.alloc (boxTt a c T) = W := ⟨_, rfl⟩
  obtain ⟨b7, s7, c7⟩ := box_tt hw7
  obtain ⟨p0, p1, p2, p3, p4, p5, p6, p7, p8, p9, p10, p11, p12⟩ := row_tt c7
  have B7 := Lib.hid b7
  have H := Lib.hid (h.below b7)
  obtain ⟨⟨f0, f1, f2, f3, f4, f5, f6, f7, f8, f9⟩, hts0⟩ := few_iff.1 hf
  have hts : ∀ x ∈ T.tr, (clT x).length ≤ 1000000 := fun x hx => by have := hts0 x hx; omega
  have C := Lib.hid (S13.rcheck_all (.slice (a 0) T.st.length (c 0)) T.st (by omega) w7 H.out.st)
  obtain ⟨⟨x, y⟩, hq⟩ : ∃ q, partT T 0 = q := ⟨_, rfl⟩
  have hq' : S13.chkT T.st = (x, y) := hq
  rw [hq'] at C
  rw [hq]
  clear b7 s7 c7 h hf f0 f1 f2 f3 f4 f5 f6 f7 f8 f9 hts hts0 hq hq' H
  go_enter Tryz.func15, Tryz.ntmps15
  go_wp2_with fail
  refine C.out.mono ?_
  rintro e w8 ⟨rfl, rfl⟩
  go_wp2_with fail
  go_ret2
  exact ⟨rfl, B7.out⟩
set_option maxRecDepth 100000 in
set_option maxHeartbeats 4000000 in
theorem rpart_1 (a : Nat → Option Addr) (c : Nat → Nat) (T : Tt) (hf : fewT T = true) (w : World) (h : TtL w a c T) : Calls Tryz.prog 15 #[ttV a c T, .int .i64 1] w fun e w' => e = .returned (.tuple #[.int .i64 ((partT T 1).1), .int .i64 ((partT T 1).2)]) ∧ Below w.heap.size w w' := by
  obtain ⟨w7, hw7⟩ : ∃ W, w.alloc (boxTt a c T) = W := ⟨_, rfl⟩
  obtain ⟨b7, s7, c7⟩ := box_tt hw7
  obtain ⟨p0, p1, p2, p3, p4, p5, p6, p7, p8, p9, p10, p11, p12⟩ := row_tt c7
  have B7 := Lib.hid b7
  have H := Lib.hid (h.below b7)
  obtain ⟨⟨f0, f1, f2, f3, f4, f5, f6, f7, f8, f9⟩, hts0⟩ := few_iff.1 hf
  have hts : ∀ x ∈ T.tr, (clT x).length ≤ 1000000 := fun x hx => by have := hts0 x hx; omega
  have C := Lib.hid (Calls.below (S15.rcheck_any (.slice (a 1) T.ro.length (c 1)) T.ro (by omega) w7 H.out.ro))
  obtain ⟨⟨x, y⟩, hq⟩ : ∃ q, partT T 1 = q := ⟨_, rfl⟩
  have hq' : chkR T.ro = (x, y) := hq
  rw [hq'] at C
  rw [hq]
  clear b7 s7 c7 h hf f0 f1 f2 f3 f4 f5 f6 f7 f8 f9 hts hts0 hq hq' H
  go_enter Tryz.func15, Tryz.ntmps15
  go_wp2_with fail
  refine C.out.mono ?_
  rintro e w8 ⟨rfl, b8⟩
  have B8 : Hid (Below w.heap.size w w8) := B7.out.trans (b8.mono B7.out.size)
  clear b8 C B7
  go_wp2_with fail
  go_ret2
  exact ⟨rfl, B8.out⟩
set_option maxRecDepth 100000 in
set_option maxHeartbeats 4000000 in
theorem rpart_2 (a : Nat → Option Addr) (c : Nat → Nat) (T : Tt) (hf : fewT T = true) (w : World) (h : TtL w a c T) : Calls Tryz.prog 15 #[ttV a c T, .int .i64 2] w fun e w' => e = .returned (.tuple #[.int .i64 ((partT T 2).1), .int .i64 ((partT T 2).2)]) ∧ Below w.heap.size w w' := by
  obtain ⟨w7, hw7⟩ : ∃ W, w.alloc (boxTt a c T) = W := ⟨_, rfl⟩
  obtain ⟨b7, s7, c7⟩ := box_tt hw7
  obtain ⟨p0, p1, p2, p3, p4, p5, p6, p7, p8, p9, p10, p11, p12⟩ := row_tt c7
  have B7 := Lib.hid b7
  have H := Lib.hid (h.below b7)
  obtain ⟨⟨f0, f1, f2, f3, f4, f5, f6, f7, f8, f9⟩, hts0⟩ := few_iff.1 hf
  have hts : ∀ x ∈ T.tr, (clT x).length ≤ 1000000 := fun x hx => by have := hts0 x hx; omega
  have C := Lib.hid (Calls.below (S14.rcheck_all (.slice (a 2) T.ca.length (c 2)) T.ca (by omega) w7 H.out.ca))
  obtain ⟨⟨x, y⟩, hq⟩ : ∃ q, partT T 2 = q := ⟨_, rfl⟩
  have hq' : S14.chkC T.ca = (x, y) := hq
  rw [hq'] at C
  rw [hq]
  clear b7 s7 c7 h hf f0 f1 f2 f3 f4 f5 f6 f7 f8 f9 hts hts0 hq hq' H
  go_enter Tryz.func15, Tryz.ntmps15
  go_wp2_with fail
  refine C.out.mono ?_
  rintro e w8 ⟨rfl, b8⟩
  have B8 : Hid (Below w.heap.size w w8) := B7.out.trans (b8.mono B7.out.size)
  clear b8 C B7
  go_wp2_with fail
  go_ret2
  exact ⟨rfl, B8.out⟩
set_option maxRecDepth 100000 in
set_option maxHeartbeats 4000000 in
theorem rpart_3 (a : Nat → Option Addr) (c : Nat → Nat) (T : Tt) (hf : fewT T = true) (w : World) (h : TtL w a c T) : Calls Tryz.prog 15 #[ttV a c T, .int .i64 3] w fun e w' => e = .returned (.tuple #[.int .i64 ((partT T 3).1), .int .i64 ((partT T 3).2)]) ∧ Below w.heap.size w w' := by
  obtain ⟨w7, hw7⟩ : ∃ W, w.alloc (boxTt a c T) = W := ⟨_, rfl⟩
  obtain ⟨b7, s7, c7⟩ := box_tt hw7
  obtain ⟨p0, p1, p2, p3, p4, p5, p6, p7, p8, p9, p10, p11, p12⟩ := row_tt c7
  have B7 := Lib.hid b7
  have H := Lib.hid (h.below b7)
  obtain ⟨⟨f0, f1, f2, f3, f4, f5, f6, f7, f8, f9⟩, hts0⟩ := few_iff.1 hf
  have hts : ∀ x ∈ T.tr, (clT x).length ≤ 1000000 := fun x hx => by have := hts0 x hx; omega
  have C := Lib.hid (Calls.below (S14.rcx_any (.slice (a 3) T.ex.length (c 3)) T.ex T.ca.length (by omega) w7 H.out.ex))
  obtain ⟨⟨x, y⟩, hq⟩ : ∃ q, partT T 3 = q := ⟨_, rfl⟩
  have hq' : S14.chkX T.ca.length T.ex = (x, y) := hq
  rw [hq'] at C
  rw [hq]
  clear b7 s7 c7 h hf f0 f1 f2 f3 f4 f5 f6 f7 f8 f9 hts hts0 hq hq' H
  go_enter Tryz.func15, Tryz.ntmps15
  go_wp2_with fail
  refine C.out.mono ?_
  rintro e w8 ⟨rfl, b8⟩
  have B8 : Hid (Below w.heap.size w w8) := B7.out.trans (b8.mono B7.out.size)
  clear b8 C B7
  go_wp2_with fail
  go_ret2
  exact ⟨rfl, B8.out⟩
set_option maxRecDepth 100000 in
set_option maxHeartbeats 4000000 in
theorem rpart_4 (a : Nat → Option Addr) (c : Nat → Nat) (T : Tt) (hf : fewT T = true) (w : World) (h : TtL w a c T) : Calls Tryz.prog 15 #[ttV a c T, .int .i64 4] w fun e w' => e = .returned (.tuple #[.int .i64 ((partT T 4).1), .int .i64 ((partT T 4).2)]) ∧ Below w.heap.size w w' := by
  obtain ⟨w7, hw7⟩ : ∃ W, w.alloc (boxTt a c T) = W := ⟨_, rfl⟩
  obtain ⟨b7, s7, c7⟩ := box_tt hw7
  obtain ⟨p0, p1, p2, p3, p4, p5, p6, p7, p8, p9, p10, p11, p12⟩ := row_tt c7
  have B7 := Lib.hid b7
  have H := Lib.hid (h.below b7)
  obtain ⟨⟨f0, f1, f2, f3, f4, f5, f6, f7, f8, f9⟩, hts0⟩ := few_iff.1 hf
  have hts : ∀ x ∈ T.tr, (clT x).length ≤ 1000000 := fun x hx => by have := hts0 x hx; omega
  have C := Lib.hid (S17.rtck_any (.slice (a 4) T.tr.length (c 4)) T.tr (by omega) T.st.length T.ro.length T.ca.length w7 H.out.tr)
  obtain ⟨⟨x, y⟩, hq⟩ : ∃ q, partT T 4 = q := ⟨_, rfl⟩
  have hq' : S17.chkT T.st.length T.ro.length T.ca.length T.tr = (x, y) := hq
  rw [hq'] at C
  rw [hq]
  clear b7 s7 c7 h hf f0 f1 f2 f3 f4 f5 f6 f7 f8 f9 hts hts0 hq hq' H
  go_enter Tryz.func15, Tryz.ntmps15
  go_wp2_with fail
  refine C.out.mono ?_
  rintro e w8 ⟨rfl, b8⟩
  have B8 : Hid (Below w.heap.size w w8) := B7.out.trans (b8.mono B7.out.size)
  clear b8 C B7
  go_wp2_with fail
  go_ret2
  exact ⟨rfl, B8.out⟩
set_option maxRecDepth 100000 in
set_option maxHeartbeats 4000000 in
theorem rpart_5 (a : Nat → Option Addr) (c : Nat → Nat) (T : Tt) (hf : fewT T = true) (w : World) (h : TtL w a c T) : Calls Tryz.prog 15 #[ttV a c T, .int .i64 5] w fun e w' => e = .returned (.tuple #[.int .i64 ((partT T 5).1), .int .i64 ((partT T 5).2)]) ∧ Below w.heap.size w w' := by
  obtain ⟨w7, hw7⟩ : ∃ W, w.alloc (boxTt a c T) = W := ⟨_, rfl⟩
  obtain ⟨b7, s7, c7⟩ := box_tt hw7
  obtain ⟨p0, p1, p2, p3, p4, p5, p6, p7, p8, p9, p10, p11, p12⟩ := row_tt c7
  have B7 := Lib.hid b7
  have H := Lib.hid (h.below b7)
  obtain ⟨⟨f0, f1, f2, f3, f4, f5, f6, f7, f8, f9⟩, hts0⟩ := few_iff.1 hf
  have hts : ∀ x ∈ T.tr, (clT x).length ≤ 1000000 := fun x hx => by have := hts0 x hx; omega
  have C := Lib.hid (S18.rchk_any (.slice (a 5) T.fr.length (c 5)) T.fr (by omega) (.slice (a 4) T.tr.length (c 4)) T.tr hts w7 H.out.fr H.out.tr)
  obtain ⟨⟨x, y⟩, hq⟩ : ∃ q, partT T 5 = q := ⟨_, rfl⟩
  have hq' : chkF (T.tr.map clT) T.fr = (x, y) := hq
  rw [hq'] at C
  rw [hq]
  clear b7 s7 c7 h hf f0 f1 f2 f3 f4 f5 f6 f7 f8 f9 hts hts0 hq hq' H
  go_enter Tryz.func15, Tryz.ntmps15
  go_wp2_with fail
  refine C.out.mono ?_
  rintro e w8 ⟨rfl, b8⟩
  have B8 : Hid (Below w.heap.size w w8) := B7.out.trans (b8.mono B7.out.size)
  clear b8 C B7
  go_wp2_with fail
  go_ret2
  exact ⟨rfl, B8.out⟩
set_option maxRecDepth 100000 in
set_option maxHeartbeats 4000000 in
theorem rpart_6 (a : Nat → Option Addr) (c : Nat → Nat) (T : Tt) (hf : fewT T = true) (w : World) (h : TtL w a c T) : Calls Tryz.prog 15 #[ttV a c T, .int .i64 6] w fun e w' => e = .returned (.tuple #[.int .i64 ((partT T 6).1), .int .i64 ((partT T 6).2)]) ∧ Below w.heap.size w w' := by
  obtain ⟨w7, hw7⟩ : ∃ W, w.alloc (boxTt a c T) = W := ⟨_, rfl⟩
  obtain ⟨b7, s7, c7⟩ := box_tt hw7
  obtain ⟨p0, p1, p2, p3, p4, p5, p6, p7, p8, p9, p10, p11, p12⟩ := row_tt c7
  have B7 := Lib.hid b7
  have H := Lib.hid (h.below b7)
  obtain ⟨⟨f0, f1, f2, f3, f4, f5, f6, f7, f8, f9⟩, hts0⟩ := few_iff.1 hf
  have hts : ∀ x ∈ T.tr, (clT x).length ≤ 1000000 := fun x hx => by have := hts0 x hx; omega
  have C := Lib.hid (S19.rchkh_any (.slice (a 6) T.th.length (c 6)) T.th (by omega) (.slice (a 4) T.tr.length (c 4)) T.tr (by omega) hts (.slice (a 5) T.fr.length (c 5)) T.fr (by omega) w7 H.out.th H.out.tr H.out.fr)
  obtain ⟨⟨x, y⟩, hq⟩ : ∃ q, partT T 6 = q := ⟨_, rfl⟩
  have hq' : S19.chkH (T.tr.map S19.tcT) T.fr T.th = (x, y) := hq
  rw [hq'] at C
  rw [hq]
  clear b7 s7 c7 h hf f0 f1 f2 f3 f4 f5 f6 f7 f8 f9 hts hts0 hq hq' H
  go_enter Tryz.func15, Tryz.ntmps15
  go_wp2_with fail
  refine C.out.mono ?_
  rintro e w8 ⟨rfl, b8⟩
  have B8 : Hid (Below w.heap.size w w8) := B7.out.trans (b8.mono B7.out.size)
  clear b8 C B7
  go_wp2_with fail
  go_ret2
  exact ⟨rfl, B8.out⟩
set_option maxRecDepth 100000 in
set_option maxHeartbeats 4000000 in
theorem rpart_7 (a : Nat → Option Addr) (c : Nat → Nat) (T : Tt) (hf : fewT T = true) (w : World) (h : TtL w a c T) : Calls Tryz.prog 15 #[ttV a c T, .int .i64 7] w fun e w' => e = .returned (.tuple #[.int .i64 ((partT T 7).1), .int .i64 ((partT T 7).2)]) ∧ Below w.heap.size w w' := by
  obtain ⟨w7, hw7⟩ : ∃ W, w.alloc (boxTt a c T) = W := ⟨_, rfl⟩
  obtain ⟨b7, s7, c7⟩ := box_tt hw7
  obtain ⟨p0, p1, p2, p3, p4, p5, p6, p7, p8, p9, p10, p11, p12⟩ := row_tt c7
  have B7 := Lib.hid b7
  have H := Lib.hid (h.below b7)
  obtain ⟨⟨f0, f1, f2, f3, f4, f5, f6, f7, f8, f9⟩, hts0⟩ := few_iff.1 hf
  have hts : ∀ x ∈ T.tr, (clT x).length ≤ 1000000 := fun x hx => by have := hts0 x hx; omega
  have C := Lib.hid (S19.rchku_any (.slice (a 7) T.gu.length (c 7)) T.gu (by omega) (.slice (a 4) T.tr.length (c 4)) T.tr (by omega) hts (.slice (a 5) T.fr.length (c 5)) T.fr (by omega) T.st.length w7 H.out.gu H.out.tr H.out.fr)
  obtain ⟨⟨x, y⟩, hq⟩ : ∃ q, partT T 7 = q := ⟨_, rfl⟩
  have hq' : S19.chkU (T.tr.map S19.tcT) T.fr T.st.length T.gu = (x, y) := hq
  rw [hq'] at C
  rw [hq]
  clear b7 s7 c7 h hf f0 f1 f2 f3 f4 f5 f6 f7 f8 f9 hts hts0 hq hq' H
  go_enter Tryz.func15, Tryz.ntmps15
  go_wp2_with fail
  refine C.out.mono ?_
  rintro e w8 ⟨rfl, b8⟩
  have B8 : Hid (Below w.heap.size w w8) := B7.out.trans (b8.mono B7.out.size)
  clear b8 C B7
  go_wp2_with fail
  go_ret2
  exact ⟨rfl, B8.out⟩
set_option maxRecDepth 100000 in
set_option maxHeartbeats 4000000 in
theorem rpart_8 (a : Nat → Option Addr) (c : Nat → Nat) (T : Tt) (hf : fewT T = true) (w : World) (h : TtL w a c T) : Calls Tryz.prog 15 #[ttV a c T, .int .i64 8] w fun e w' => e = .returned (.tuple #[.int .i64 ((partT T 8).1), .int .i64 ((partT T 8).2)]) ∧ Below w.heap.size w w' := by
  obtain ⟨w7, hw7⟩ : ∃ W, w.alloc (boxTt a c T) = W := ⟨_, rfl⟩
  obtain ⟨b7, s7, c7⟩ := box_tt hw7
  obtain ⟨p0, p1, p2, p3, p4, p5, p6, p7, p8, p9, p10, p11, p12⟩ := row_tt c7
  have B7 := Lib.hid b7
  have H := Lib.hid (h.below b7)
  obtain ⟨⟨f0, f1, f2, f3, f4, f5, f6, f7, f8, f9⟩, hts0⟩ := few_iff.1 hf
  have hts : ∀ x ∈ T.tr, (clT x).length ≤ 1000000 := fun x hx => by have := hts0 x hx; omega
  have C := Lib.hid (S20.rchk_any (.slice (a 8) T.pa.length (c 8)) T.pa (by omega) T.st.length w7 H.out.pa)
  obtain ⟨⟨x, y⟩, hq⟩ : ∃ q, partT T 8 = q := ⟨_, rfl⟩
  have hq' : S20.chkP T.st.length T.pa = (x, y) := hq
  rw [hq'] at C
  rw [hq]
  clear b7 s7 c7 h hf f0 f1 f2 f3 f4 f5 f6 f7 f8 f9 hts hts0 hq hq' H
  go_enter Tryz.func15, Tryz.ntmps15
  go_wp2_with fail
  refine C.out.mono ?_
  rintro e w8 ⟨rfl, b8⟩
  have B8 : Hid (Below w.heap.size w w8) := B7.out.trans (b8.mono B7.out.size)
  clear b8 C B7
  go_wp2_with fail
  go_ret2
  exact ⟨rfl, B8.out⟩
set_option maxRecDepth 100000 in
set_option maxHeartbeats 4000000 in
theorem rpart_9 (a : Nat → Option Addr) (c : Nat → Nat) (T : Tt) (hf : fewT T = true) (w : World) (h : TtL w a c T) : Calls Tryz.prog 15 #[ttV a c T, .int .i64 9] w fun e w' => e = .returned (.tuple #[.int .i64 ((partT T 9).1), .int .i64 ((partT T 9).2)]) ∧ Below w.heap.size w w' := by
  obtain ⟨w7, hw7⟩ : ∃ W, w.alloc (boxTt a c T) = W := ⟨_, rfl⟩
  obtain ⟨b7, s7, c7⟩ := box_tt hw7
  obtain ⟨p0, p1, p2, p3, p4, p5, p6, p7, p8, p9, p10, p11, p12⟩ := row_tt c7
  have B7 := Lib.hid b7
  have H := Lib.hid (h.below b7)
  obtain ⟨⟨f0, f1, f2, f3, f4, f5, f6, f7, f8, f9⟩, hts0⟩ := few_iff.1 hf
  have hts : ∀ x ∈ T.tr, (clT x).length ≤ 1000000 := fun x hx => by have := hts0 x hx; omega
  have C := Lib.hid (S21.rcheck_any (.slice (a 9) T.pr.length (c 9)) T.pr T.di T.wi T.cp (by omega) w7 H.out.pr)
  obtain ⟨⟨x, y⟩, hq⟩ : ∃ q, partT T 9 = q := ⟨_, rfl⟩
  have hq' : S21.chkPd T.di T.wi T.cp T.pr = (x, y) := hq
  rw [hq'] at C
  rw [hq]
  clear b7 s7 c7 h hf f0 f1 f2 f3 f4 f5 f6 f7 f8 f9 hts hts0 hq hq' H
  go_enter Tryz.func15, Tryz.ntmps15
  go_wp2_with fail
  refine C.out.mono ?_
  rintro e w8 ⟨rfl, b8⟩
  have B8 : Hid (Below w.heap.size w w8) := B7.out.trans (b8.mono B7.out.size)
  clear b8 C B7
  go_wp2_with fail
  go_ret2
  exact ⟨rfl, B8.out⟩
theorem rpart_any (a : Nat → Option Addr) (c : Nat → Nat) (T : Tt) (hf : fewT T = true) (j : Nat) (hj : j < 10) (w : World) (h : TtL w a c T) : Calls Tryz.prog 15 #[ttV a c T, .int .i64 (j : Int)] w fun e w' => e = .returned (.tuple #[.int .i64 ((partT T j).1), .int .i64 ((partT T j).2)]) ∧ Below w.heap.size w w' := by
  match j, hj with
  | 0, _ => exact rpart_0 a c T hf w h
  | 1, _ => exact rpart_1 a c T hf w h
  | 2, _ => exact rpart_2 a c T hf w h
  | 3, _ => exact rpart_3 a c T hf w h
  | 4, _ => exact rpart_4 a c T hf w h
  | 5, _ => exact rpart_5 a c T hf w h
  | 6, _ => exact rpart_6 a c T hf w h
  | 7, _ => exact rpart_7 a c T hf w h
  | 8, _ => exact rpart_8 a c T hf w h
  | 9, _ => exact rpart_9 a c T hf w h
theorem ret_tt {x y z : Int} {q : Int × Int × Int} (h : q = (x, y, z)) : Ending.returned (.tuple #[.int .i64 x, .int .i64 y, .int .i64 z]) = .returned (.tuple #[.int .i64 q.1, .int .i64 q.2.1, .int .i64 q.2.2]) := by rw [h]
set_option maxRecDepth 100000 in
set_option maxHeartbeats 4000000 in
theorem rttc_any (a : Nat → Option Addr) (c : Nat → Nat) (T : Tt) (hf : fewT T = true) (w : World) (h : TtL w a c T) : Calls Tryz.prog 9 #[ttV a c T] w fun e w' => e = .returned (.tuple #[.int .i64 ((ttC T).1), .int .i64 ((ttC T).2.1), .int .i64 ((ttC T).2.2)]) ∧ Below w.heap.size w w' := by
  obtain ⟨w7, hw7⟩ : ∃ W, w.alloc (boxTt a c T) = W := ⟨_, rfl⟩
  obtain ⟨b7, s7, c7⟩ := box_tt hw7
  obtain ⟨p0, p1, p2, p3, p4, p5, p6, p7, p8, p9, p10, p11, p12⟩ := row_tt c7
  have B7 := Lib.hid b7
  have H := Lib.hid (h.below b7)
  have C7 := Lib.hid c7
  have PA := Lib.hid (fun (j : Nat) (hj : j < 10) W hW => rpart_any a c T hf j hj W hW)
  have ST : Hid (ttC T = ttF (partT T) 0 10) := Lib.hid rfl
  generalize ttC T = q at ST ⊢
  generalize partT T = P at PA ST
  clear b7 s7 c7 h hf
  go_enter Tryz.func9, Tryz.ntmps9
  go_wp2_with fail
  go_loopw [5] (fun i wr => ∃ k : Nat, i = .int .i64 k ∧ k ≤ 10 ∧ Hid (q = ttF P k (10 - k)) ∧ Hid (Below w7.heap.size w7 wr)) (fun i _ => 10 - (intOf i).toNat)
  case atStart => exact ⟨0, rfl, Nat.zero_le _, ST, Lib.hid (Below.refl _ _)⟩
  case round =>
    clear ST p0 p1 p2 p3 p4 p5 p6 p7 p8 p9 p10 p11 p12
    obtain ⟨k, rfl, hk, hq, HB⟩ := hrel
    by_cases hlt : k < 10
    · obtain ⟨p0, p1, p2, p3, p4, p5, p6, p7, p8, p9, p10, p11, p12⟩ := row_tt ((HB.out.block _ (Array.getElem?_eq_some_iff.1 C7.out).1).trans C7.out)
      have C := Lib.hid (PA.out k hlt wr (H.out.below HB.out))
      have gk : (k : Int) < 10 := by omega
      have e10 : 10 - k = (10 - (k + 1)) + 1 := by omega
      by_cases hv : (P k).2 = 0
      · have N : Hid (q = ttF P (k + 1) (10 - (k + 1))) := Lib.hid (by rw [hq.out, e10, tt_next hv])
        obtain ⟨⟨x, y⟩, hP⟩ : ∃ z, P k = z := ⟨_, rfl⟩
        rw [hP] at C hv
        obtain rfl : y = 0 := hv
        clear hq hP e10
        go_wp2_with fail
        refine C.out.mono ?_
        rintro e w8 ⟨rfl, b8⟩
        have B8 : Hid (Below w7.heap.size w7 w8) := HB.out.trans (b8.mono HB.out.size)
        clear b8 C HB p0 p1 p2 p3 p4 p5 p6 p7 p8 p9 p10 p11 p12
        go_wp2_with fail
        go_roundw
        case rel => exact ⟨k + 1, by go_num, by omega, N, B8⟩
        case measure => simp [intOf]; omega
      · have R : Hid (q = ((k : Int), (P k).1, (P k).2)) := Lib.hid (by rw [hq.out, e10, tt_stop hv])
        obtain ⟨⟨x, y⟩, hP⟩ : ∃ z, P k = z := ⟨_, rfl⟩
        rw [hP] at C hv R
        have ne : (y != 0) = true := bne_true hv
        clear hq hP e10 hv
        go_wp2_with fail
        refine C.out.mono ?_
        rintro e w8 ⟨rfl, b8⟩
        have B8 : Hid (Below w7.heap.size w7 w8) := HB.out.trans (b8.mono HB.out.size)
        clear b8 C HB p0 p1 p2 p3 p4 p5 p6 p7 p8 p9 p10 p11 p12
        go_wp2_with fail
        go_ret3
        exact ⟨ret_tt R.out, B7.out.trans (B8.out.mono B7.out.size)⟩
    · have dk : decide ((k : Int) < 10) = false := decide_eq_false (by omega)
      have R : Hid (q = (0, 0, 0)) := Lib.hid (by rw [hq.out, show 10 - k = 0 by omega]; rfl)
      clear hlt hq PA
      go_wp2_with fail
      go_ret3
      exact ⟨ret_tt R.out, B7.out.trans (HB.out.mono B7.out.size)⟩
end Go.Proofs.YtkhalnjgbdpfhaaGreat
