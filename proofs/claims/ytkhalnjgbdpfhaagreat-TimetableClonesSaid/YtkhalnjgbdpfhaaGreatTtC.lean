/-
  Check of the program's timetables: its list of checks, each check, and the first part that has an error; nothing that existed before the call has changed behind it. Condition: few elements.
-/
import Derived.Test.YtkhalnjgbdpfhaaGreatTtX
namespace Go.Proofs.YtkhalnjgbdpfhaaGreat
open Go.RowKit

set_option maxRecDepth 100000 in
set_option maxHeartbeats 1000000 in
theorem clo0_any (a : Nat → Option Addr) (c : Nat → Nat) (T : Tt) (hf : fewT T = true) (_ok : OkTt T) (B : Nat) (w : World) (hB : w.heap[B]? = some (boxTt a c T)) (h : TtL w a c T) : Calls Tryz.prog 41 #[.pointer (some ⟨B, 0, none⟩)] w fun e w' => e = .returned (.tuple #[.int .i64 ((partT T 0).1), .int .i64 ((partT T 0).2)]) ∧ Below w.heap.size w w' := by
  obtain ⟨p0, p1, p2, p3, p4, p5, p6, p7, p8, p9, p10, p11, p12⟩ := row_tt hB
  obtain ⟨⟨f0, f1, f2, f3, f4, f5, f6, f7, f8, f9⟩, hts0⟩ := few_iff.1 hf
  have hts : ∀ x ∈ T.tr, (clT x).length ≤ 1000000 := fun x hx => by have := hts0 x hx; omega
  have K0 := Lib.hid (S13.kcheck_all (.slice (a 0) T.st.length (c 0)) T.st (by omega) w h.st)
  obtain ⟨⟨x0, y0⟩, q0⟩ : ∃ q, partT T 0 = q := ⟨_, rfl⟩
  have e0 : S13.chkT T.st = (x0, y0) := q0
  rw [e0] at K0
  rw [q0]
  clear f0 f1 f2 f3 f4 f5 f6 f7 f8 f9 hts hts0 hf _ok h hB e0 q0
  go_enter Tryz.func41, Tryz.ntmps41
  go_wp2_with fail
  refine (K0.out).mono ?_
  rintro e w8 ⟨rfl, bw8⟩
  have B8 := Lib.hid bw8
  clear bw8 K0 p0 p1 p2 p3 p4 p5 p6 p7 p8 p9 p10 p11 p12
  go_wp2_with fail
  go_ret2
  exact ⟨rfl, B8.out⟩
set_option maxRecDepth 100000 in
set_option maxHeartbeats 1000000 in
theorem clo1_any (a : Nat → Option Addr) (c : Nat → Nat) (T : Tt) (hf : fewT T = true) (_ok : OkTt T) (B : Nat) (w : World) (hB : w.heap[B]? = some (boxTt a c T)) (h : TtL w a c T) : Calls Tryz.prog 43 #[.pointer (some ⟨B, 0, none⟩)] w fun e w' => e = .returned (.tuple #[.int .i64 ((partT T 1).1), .int .i64 ((partT T 1).2)]) ∧ Below w.heap.size w w' := by
  obtain ⟨p0, p1, p2, p3, p4, p5, p6, p7, p8, p9, p10, p11, p12⟩ := row_tt hB
  obtain ⟨⟨f0, f1, f2, f3, f4, f5, f6, f7, f8, f9⟩, hts0⟩ := few_iff.1 hf
  have hts : ∀ x ∈ T.tr, (clT x).length ≤ 1000000 := fun x hx => by have := hts0 x hx; omega
  have K0 := Lib.hid (S15.kcheck_any (.slice (a 1) T.ro.length (c 1)) T.ro (by omega) w h.ro)
  obtain ⟨⟨x0, y0⟩, q0⟩ : ∃ q, partT T 1 = q := ⟨_, rfl⟩
  have e0 : chkR T.ro = (x0, y0) := q0
  rw [e0] at K0
  rw [q0]
  clear f0 f1 f2 f3 f4 f5 f6 f7 f8 f9 hts hts0 hf _ok h hB e0 q0
  go_enter Tryz.func43, Tryz.ntmps43
  go_wp2_with fail
  refine (K0.out).mono ?_
  rintro e w8 ⟨rfl, bw8⟩
  have B8 := Lib.hid bw8
  clear bw8 K0 p0 p1 p2 p3 p4 p5 p6 p7 p8 p9 p10 p11 p12
  go_wp2_with fail
  go_ret2
  exact ⟨rfl, B8.out⟩
set_option maxRecDepth 100000 in
set_option maxHeartbeats 1000000 in
theorem clo2_any (a : Nat → Option Addr) (c : Nat → Nat) (T : Tt) (hf : fewT T = true) (_ok : OkTt T) (B : Nat) (w : World) (hB : w.heap[B]? = some (boxTt a c T)) (h : TtL w a c T) : Calls Tryz.prog 45 #[.pointer (some ⟨B, 0, none⟩)] w fun e w' => e = .returned (.tuple #[.int .i64 ((partT T 2).1), .int .i64 ((partT T 2).2)]) ∧ Below w.heap.size w w' := by
  obtain ⟨p0, p1, p2, p3, p4, p5, p6, p7, p8, p9, p10, p11, p12⟩ := row_tt hB
  obtain ⟨⟨f0, f1, f2, f3, f4, f5, f6, f7, f8, f9⟩, hts0⟩ := few_iff.1 hf
  have hts : ∀ x ∈ T.tr, (clT x).length ≤ 1000000 := fun x hx => by have := hts0 x hx; omega
  have K0 := Lib.hid (S14.kcheck_all (.slice (a 2) T.ca.length (c 2)) T.ca (by omega) w h.ca)
  obtain ⟨⟨x0, y0⟩, q0⟩ : ∃ q, partT T 2 = q := ⟨_, rfl⟩
  have e0 : S14.chkC T.ca = (x0, y0) := q0
  rw [e0] at K0
  rw [q0]
  clear f0 f1 f2 f3 f4 f5 f6 f7 f8 f9 hts hts0 hf _ok h hB e0 q0
  go_enter Tryz.func45, Tryz.ntmps45
  go_wp2_with fail
  refine (K0.out).mono ?_
  rintro e w8 ⟨rfl, bw8⟩
  have B8 := Lib.hid bw8
  clear bw8 K0 p0 p1 p2 p3 p4 p5 p6 p7 p8 p9 p10 p11 p12
  go_wp2_with fail
  go_ret2
  exact ⟨rfl, B8.out⟩
set_option maxRecDepth 100000 in
set_option maxHeartbeats 1000000 in
theorem clo3_any (a : Nat → Option Addr) (c : Nat → Nat) (T : Tt) (hf : fewT T = true) (ok : OkTt T) (B Bc : Nat) (w : World) (hB : w.heap[B]? = some (boxTt a c T)) (hc : w.cell? ⟨Bc, 0, none⟩ = some (.int .i64 T.ca.length)) (h : TtL w a c T) : Calls Tryz.prog 47 #[.pointer (some ⟨B, 0, none⟩), .pointer (some ⟨Bc, 0, none⟩)] w fun e w' => e = .returned (.tuple #[.int .i64 ((partT T 3).1), .int .i64 ((partT T 3).2)]) ∧ Below w.heap.size w w' := by
  obtain ⟨p0, p1, p2, p3, p4, p5, p6, p7, p8, p9, p10, p11, p12⟩ := row_tt hB
  obtain ⟨⟨f0, f1, f2, f3, f4, f5, f6, f7, f8, f9⟩, hts0⟩ := few_iff.1 hf
  have hts : ∀ x ∈ T.tr, (clT x).length ≤ 1000000 := fun x hx => by have := hts0 x hx; omega
  have K0 := Lib.hid (S14.kcx_any (.slice (a 3) T.ex.length (c 3)) T.ex T.ca.length (by omega) ok.1 w h.ex)
  obtain ⟨⟨x0, y0⟩, q0⟩ : ∃ q, partT T 3 = q := ⟨_, rfl⟩
  have e0 : S14.chkX T.ca.length T.ex = (x0, y0) := q0
  rw [e0] at K0
  rw [q0]
  clear f0 f1 f2 f3 f4 f5 f6 f7 f8 f9 hts hts0 hf ok h hB e0 q0
  go_enter Tryz.func47, Tryz.ntmps47
  go_wp2_with fail
  refine (K0.out).mono ?_
  rintro e w8 ⟨rfl, bw8⟩
  have B8 := Lib.hid bw8
  clear bw8 K0 p0 p1 p2 p3 p4 p5 p6 p7 p8 p9 p10 p11 p12
  go_wp2_with fail
  go_ret2
  exact ⟨rfl, B8.out⟩
set_option maxRecDepth 100000 in
set_option maxHeartbeats 1000000 in
theorem clo4_any (a : Nat → Option Addr) (c : Nat → Nat) (T : Tt) (hf : fewT T = true) (_ok : OkTt T) (B Bs Br Bc : Nat) (w : World) (hB : w.heap[B]? = some (boxTt a c T)) (hs : w.cell? ⟨Bs, 0, none⟩ = some (.int .i64 T.st.length)) (hr : w.cell? ⟨Br, 0, none⟩ = some (.int .i64 T.ro.length)) (hc : w.cell? ⟨Bc, 0, none⟩ = some (.int .i64 T.ca.length)) (h : TtL w a c T) : Calls Tryz.prog 49 #[.pointer (some ⟨B, 0, none⟩), .pointer (some ⟨Bs, 0, none⟩), .pointer (some ⟨Br, 0, none⟩), .pointer (some ⟨Bc, 0, none⟩)] w fun e w' => e = .returned (.tuple #[.int .i64 ((partT T 4).1), .int .i64 ((partT T 4).2)]) ∧ Below w.heap.size w w' := by
  obtain ⟨p0, p1, p2, p3, p4, p5, p6, p7, p8, p9, p10, p11, p12⟩ := row_tt hB
  obtain ⟨⟨f0, f1, f2, f3, f4, f5, f6, f7, f8, f9⟩, hts0⟩ := few_iff.1 hf
  have hts : ∀ x ∈ T.tr, (clT x).length ≤ 1000000 := fun x hx => by have := hts0 x hx; omega
  have K0 := Lib.hid (S17.ktck_any (.slice (a 4) T.tr.length (c 4)) T.tr (by omega) T.st.length T.ro.length T.ca.length w h.tr)
  obtain ⟨⟨x0, y0⟩, q0⟩ : ∃ q, partT T 4 = q := ⟨_, rfl⟩
  have e0 : S17.chkT T.st.length T.ro.length T.ca.length T.tr = (x0, y0) := q0
  rw [e0] at K0
  rw [q0]
  clear f0 f1 f2 f3 f4 f5 f6 f7 f8 f9 hts hts0 hf _ok h hB e0 q0
  go_enter Tryz.func49, Tryz.ntmps49
  go_wp2_with fail
  refine (K0.out).mono ?_
  rintro e w8 ⟨rfl, bw8⟩
  have B8 := Lib.hid bw8
  clear bw8 K0 p0 p1 p2 p3 p4 p5 p6 p7 p8 p9 p10 p11 p12
  go_wp2_with fail
  go_ret2
  exact ⟨rfl, B8.out⟩
set_option maxRecDepth 100000 in
set_option maxHeartbeats 1000000 in
theorem clo5_any (a : Nat → Option Addr) (c : Nat → Nat) (T : Tt) (hf : fewT T = true) (_ok : OkTt T) (B : Nat) (w : World) (hB : w.heap[B]? = some (boxTt a c T)) (h : TtL w a c T) : Calls Tryz.prog 51 #[.pointer (some ⟨B, 0, none⟩)] w fun e w' => e = .returned (.tuple #[.int .i64 ((partT T 5).1), .int .i64 ((partT T 5).2)]) ∧ Below w.heap.size w w' := by
  obtain ⟨p0, p1, p2, p3, p4, p5, p6, p7, p8, p9, p10, p11, p12⟩ := row_tt hB
  obtain ⟨⟨f0, f1, f2, f3, f4, f5, f6, f7, f8, f9⟩, hts0⟩ := few_iff.1 hf
  have hts : ∀ x ∈ T.tr, (clT x).length ≤ 1000000 := fun x hx => by have := hts0 x hx; omega
  have K0 := Lib.hid (S18.kchk_any (.slice (a 5) T.fr.length (c 5)) T.fr (by omega) (.slice (a 4) T.tr.length (c 4)) T.tr hts w h.fr h.tr)
  obtain ⟨⟨x0, y0⟩, q0⟩ : ∃ q, partT T 5 = q := ⟨_, rfl⟩
  have e0 : chkF (T.tr.map clT) T.fr = (x0, y0) := q0
  rw [e0] at K0
  rw [q0]
  clear f0 f1 f2 f3 f4 f5 f6 f7 f8 f9 hts hts0 hf _ok h hB e0 q0
  go_enter Tryz.func51, Tryz.ntmps51
  go_wp2_with fail
  refine (K0.out).mono ?_
  rintro e w8 ⟨rfl, bw8⟩
  have B8 := Lib.hid bw8
  clear bw8 K0 p0 p1 p2 p3 p4 p5 p6 p7 p8 p9 p10 p11 p12
  go_wp2_with fail
  go_ret2
  exact ⟨rfl, B8.out⟩
set_option maxRecDepth 100000 in
set_option maxHeartbeats 1000000 in
theorem clo6_any (a : Nat → Option Addr) (c : Nat → Nat) (T : Tt) (hf : fewT T = true) (ok : OkTt T) (B : Nat) (w : World) (hB : w.heap[B]? = some (boxTt a c T)) (h : TtL w a c T) : Calls Tryz.prog 53 #[.pointer (some ⟨B, 0, none⟩)] w fun e w' => e = .returned (.tuple #[.int .i64 ((partT T 6).1), .int .i64 ((partT T 6).2)]) ∧ Below w.heap.size w w' := by
  obtain ⟨p0, p1, p2, p3, p4, p5, p6, p7, p8, p9, p10, p11, p12⟩ := row_tt hB
  obtain ⟨⟨f0, f1, f2, f3, f4, f5, f6, f7, f8, f9⟩, hts0⟩ := few_iff.1 hf
  have hts : ∀ x ∈ T.tr, (clT x).length ≤ 1000000 := fun x hx => by have := hts0 x hx; omega
  have K0 := Lib.hid (S19.kchkh_any (.slice (a 6) T.th.length (c 6)) T.th (by omega) ok.2.1 (.slice (a 4) T.tr.length (c 4)) T.tr hts (.slice (a 5) T.fr.length (c 5)) T.fr (by omega) w h.th h.tr h.fr)
  obtain ⟨⟨x0, y0⟩, q0⟩ : ∃ q, partT T 6 = q := ⟨_, rfl⟩
  have e0 : S19.chkH (T.tr.map S19.tcT) T.fr T.th = (x0, y0) := q0
  rw [e0] at K0
  rw [q0]
  clear f0 f1 f2 f3 f4 f5 f6 f7 f8 f9 hts hts0 hf ok h hB e0 q0
  go_enter Tryz.func53, Tryz.ntmps53
  go_wp2_with fail
  refine (K0.out).mono ?_
  rintro e w8 ⟨rfl, bw8⟩
  have B8 := Lib.hid bw8
  clear bw8 K0 p0 p1 p2 p3 p4 p5 p6 p7 p8 p9 p10 p11 p12
  go_wp2_with fail
  go_ret2
  exact ⟨rfl, B8.out⟩
set_option maxRecDepth 100000 in
set_option maxHeartbeats 1000000 in
theorem clo7_any (a : Nat → Option Addr) (c : Nat → Nat) (T : Tt) (hf : fewT T = true) (ok : OkTt T) (B Bs : Nat) (w : World) (hB : w.heap[B]? = some (boxTt a c T)) (hs : w.cell? ⟨Bs, 0, none⟩ = some (.int .i64 T.st.length)) (h : TtL w a c T) : Calls Tryz.prog 55 #[.pointer (some ⟨B, 0, none⟩), .pointer (some ⟨Bs, 0, none⟩)] w fun e w' => e = .returned (.tuple #[.int .i64 ((partT T 7).1), .int .i64 ((partT T 7).2)]) ∧ Below w.heap.size w w' := by
  obtain ⟨p0, p1, p2, p3, p4, p5, p6, p7, p8, p9, p10, p11, p12⟩ := row_tt hB
  obtain ⟨⟨f0, f1, f2, f3, f4, f5, f6, f7, f8, f9⟩, hts0⟩ := few_iff.1 hf
  have hts : ∀ x ∈ T.tr, (clT x).length ≤ 1000000 := fun x hx => by have := hts0 x hx; omega
  have K0 := Lib.hid (S19.kchku_any (.slice (a 7) T.gu.length (c 7)) T.gu (by omega) ok.2.2.1 (.slice (a 4) T.tr.length (c 4)) T.tr hts (.slice (a 5) T.fr.length (c 5)) T.fr (by omega) T.st.length w h.gu h.tr h.fr)
  obtain ⟨⟨x0, y0⟩, q0⟩ : ∃ q, partT T 7 = q := ⟨_, rfl⟩
  have e0 : S19.chkU (T.tr.map S19.tcT) T.fr T.st.length T.gu = (x0, y0) := q0
  rw [e0] at K0
  rw [q0]
  clear f0 f1 f2 f3 f4 f5 f6 f7 f8 f9 hts hts0 hf ok h hB e0 q0
  go_enter Tryz.func55, Tryz.ntmps55
  go_wp2_with fail
  refine (K0.out).mono ?_
  rintro e w8 ⟨rfl, bw8⟩
  have B8 := Lib.hid bw8
  clear bw8 K0 p0 p1 p2 p3 p4 p5 p6 p7 p8 p9 p10 p11 p12
  go_wp2_with fail
  go_ret2
  exact ⟨rfl, B8.out⟩
set_option maxRecDepth 100000 in
set_option maxHeartbeats 1000000 in
theorem clo8_any (a : Nat → Option Addr) (c : Nat → Nat) (T : Tt) (hf : fewT T = true) (ok : OkTt T) (B Bs : Nat) (w : World) (hB : w.heap[B]? = some (boxTt a c T)) (hs : w.cell? ⟨Bs, 0, none⟩ = some (.int .i64 T.st.length)) (h : TtL w a c T) : Calls Tryz.prog 57 #[.pointer (some ⟨B, 0, none⟩), .pointer (some ⟨Bs, 0, none⟩)] w fun e w' => e = .returned (.tuple #[.int .i64 ((partT T 8).1), .int .i64 ((partT T 8).2)]) ∧ Below w.heap.size w w' := by
  obtain ⟨p0, p1, p2, p3, p4, p5, p6, p7, p8, p9, p10, p11, p12⟩ := row_tt hB
  obtain ⟨⟨f0, f1, f2, f3, f4, f5, f6, f7, f8, f9⟩, hts0⟩ := few_iff.1 hf
  have hts : ∀ x ∈ T.tr, (clT x).length ≤ 1000000 := fun x hx => by have := hts0 x hx; omega
  have K0 := Lib.hid (S20.kchk_any (.slice (a 8) T.pa.length (c 8)) T.pa (by omega) T.st.length ok.2.2.2 w h.pa)
  obtain ⟨⟨x0, y0⟩, q0⟩ : ∃ q, partT T 8 = q := ⟨_, rfl⟩
  have e0 : S20.chkP T.st.length T.pa = (x0, y0) := q0
  rw [e0] at K0
  rw [q0]
  clear f0 f1 f2 f3 f4 f5 f6 f7 f8 f9 hts hts0 hf ok h hB e0 q0
  go_enter Tryz.func57, Tryz.ntmps57
  go_wp2_with fail
  refine (K0.out).mono ?_
  rintro e w8 ⟨rfl, bw8⟩
  have B8 := Lib.hid bw8
  clear bw8 K0 p0 p1 p2 p3 p4 p5 p6 p7 p8 p9 p10 p11 p12
  go_wp2_with fail
  go_ret2
  exact ⟨rfl, B8.out⟩
set_option maxRecDepth 100000 in
set_option maxHeartbeats 1000000 in
theorem clo9_any (a : Nat → Option Addr) (c : Nat → Nat) (T : Tt) (hf : fewT T = true) (_ok : OkTt T) (B : Nat) (w : World) (hB : w.heap[B]? = some (boxTt a c T)) (h : TtL w a c T) : Calls Tryz.prog 59 #[.pointer (some ⟨B, 0, none⟩)] w fun e w' => e = .returned (.tuple #[.int .i64 ((partT T 9).1), .int .i64 ((partT T 9).2)]) ∧ Below w.heap.size w w' := by
  obtain ⟨p0, p1, p2, p3, p4, p5, p6, p7, p8, p9, p10, p11, p12⟩ := row_tt hB
  obtain ⟨⟨f0, f1, f2, f3, f4, f5, f6, f7, f8, f9⟩, hts0⟩ := few_iff.1 hf
  have hts : ∀ x ∈ T.tr, (clT x).length ≤ 1000000 := fun x hx => by have := hts0 x hx; omega
  have K0 := Lib.hid (S21.kcheck_any (.slice (a 9) T.pr.length (c 9)) T.pr T.di T.wi T.cp (by omega) w h.pr)
  obtain ⟨⟨x0, y0⟩, q0⟩ : ∃ q, partT T 9 = q := ⟨_, rfl⟩
  have e0 : S21.chkPd T.di T.wi T.cp T.pr = (x0, y0) := q0
  rw [e0] at K0
  rw [q0]
  clear f0 f1 f2 f3 f4 f5 f6 f7 f8 f9 hts hts0 hf _ok h hB e0 q0
  go_enter Tryz.func59, Tryz.ntmps59
  go_wp2_with fail
  refine (K0.out).mono ?_
  rintro e w8 ⟨rfl, bw8⟩
  have B8 := Lib.hid bw8
  clear bw8 K0 p0 p1 p2 p3 p4 p5 p6 p7 p8 p9 p10 p11 p12
  go_wp2_with fail
  go_ret2
  exact ⟨rfl, B8.out⟩
/-- A list of ten function values, each of which answers what the check of its part answers. -/
def Cks (T : Tt) (W : World) (v : Value) : Prop := ∃ G o, v = .slice (some ⟨G, o, none⟩) 10 10 ∧ G < W.heap.size ∧ ∀ j, j < 10 → ∃ K caps, W.cell? ⟨G, o + j, none⟩ = some (.func (.func K) #[] caps) ∧ (∀ args W, (callFunc K args).run Tryz.prog W = .ok (.enter K args) W) ∧
  ∀ W', Below W.heap.size W W' → Calls Tryz.prog K caps W' fun e w' => e = .returned (.tuple #[.int .i64 (partT T j).1, .int .i64 (partT T j).2]) ∧ Below W'.heap.size W' w'
theorem ent0 : ∀ args W, (callFunc 41 args).run Tryz.prog W = .ok (.enter 41 args) W := enter_of Tryz.func41 (by kernel_rfl) (by kernel_rfl)
theorem ent1 : ∀ args W, (callFunc 43 args).run Tryz.prog W = .ok (.enter 43 args) W := enter_of Tryz.func43 (by kernel_rfl) (by kernel_rfl)
theorem ent2 : ∀ args W, (callFunc 45 args).run Tryz.prog W = .ok (.enter 45 args) W := enter_of Tryz.func45 (by kernel_rfl) (by kernel_rfl)
theorem ent3 : ∀ args W, (callFunc 47 args).run Tryz.prog W = .ok (.enter 47 args) W := enter_of Tryz.func47 (by kernel_rfl) (by kernel_rfl)
theorem ent4 : ∀ args W, (callFunc 49 args).run Tryz.prog W = .ok (.enter 49 args) W := enter_of Tryz.func49 (by kernel_rfl) (by kernel_rfl)
theorem ent5 : ∀ args W, (callFunc 51 args).run Tryz.prog W = .ok (.enter 51 args) W := enter_of Tryz.func51 (by kernel_rfl) (by kernel_rfl)
theorem ent6 : ∀ args W, (callFunc 53 args).run Tryz.prog W = .ok (.enter 53 args) W := enter_of Tryz.func53 (by kernel_rfl) (by kernel_rfl)
theorem ent7 : ∀ args W, (callFunc 55 args).run Tryz.prog W = .ok (.enter 55 args) W := enter_of Tryz.func55 (by kernel_rfl) (by kernel_rfl)
theorem ent8 : ∀ args W, (callFunc 57 args).run Tryz.prog W = .ok (.enter 57 args) W := enter_of Tryz.func57 (by kernel_rfl) (by kernel_rfl)
theorem ent9 : ∀ args W, (callFunc 59 args).run Tryz.prog W = .ok (.enter 59 args) W := enter_of Tryz.func59 (by kernel_rfl) (by kernel_rfl)
theorem cks_mk (a : Nat → Option Addr) (c : Nat → Nat) (T : Tt) (hf : fewT T = true) (ok : OkTt T) (B Bs Br Bc G : Nat) (w : World) (hB : w.heap[B]? = some (boxTt a c T)) (hs : w.cell? ⟨Bs, 0, none⟩ = some (.int .i64 T.st.length)) (hr : w.cell? ⟨Br, 0, none⟩ = some (.int .i64 T.ro.length)) (hc : w.cell? ⟨Bc, 0, none⟩ = some (.int .i64 T.ca.length)) (h : TtL w a c T) (t : TypeId) (hG : w.heap[G]? = some (.cells #[.func (.func 41) #[] #[.pointer (some ⟨B, 0, none⟩)], .func (.func 43) #[] #[.pointer (some ⟨B, 0, none⟩)], .func (.func 45) #[] #[.pointer (some ⟨B, 0, none⟩)], .func (.func 47) #[] #[.pointer (some ⟨B, 0, none⟩), .pointer (some ⟨Bc, 0, none⟩)], .func (.func 49) #[] #[.pointer (some ⟨B, 0, none⟩), .pointer (some ⟨Bs, 0, none⟩), .pointer (some ⟨Br, 0, none⟩), .pointer (some ⟨Bc, 0, none⟩)], .func (.func 51) #[] #[.pointer (some ⟨B, 0, none⟩)], .func (.func 53) #[] #[.pointer (some ⟨B, 0, none⟩)], .func (.func 55) #[] #[.pointer (some ⟨B, 0, none⟩), .pointer (some ⟨Bs, 0, none⟩)], .func (.func 57) #[] #[.pointer (some ⟨B, 0, none⟩), .pointer (some ⟨Bs, 0, none⟩)], .func (.func 59) #[] #[.pointer (some ⟨B, 0, none⟩)]] t (0, 0))) : Cks T w (.slice (some ⟨G, 0, none⟩) 10 10) := by
  have gB : B < w.heap.size := (Array.getElem?_eq_some_iff.1 hB).1
  have gs := World.block_lt_of_cell? _ _ hs
  have gr := World.block_lt_of_cell? _ _ hr
  have gc := World.block_lt_of_cell? _ _ hc
  refine ⟨G, 0, rfl, (Array.getElem?_eq_some_iff.1 hG).1, fun j hj => ?_⟩
  match j, hj with
  | 0, _ => exact ⟨_, _, by rw [cell_of_row _ _ _ _ _ _ hG]; rfl, ent0, fun W' hW => clo0_any a c T hf ok B W' ((hW.block _ gB).trans hB) (h.below hW)⟩
  | 1, _ => exact ⟨_, _, by rw [cell_of_row _ _ _ _ _ _ hG]; rfl, ent1, fun W' hW => clo1_any a c T hf ok B W' ((hW.block _ gB).trans hB) (h.below hW)⟩
  | 2, _ => exact ⟨_, _, by rw [cell_of_row _ _ _ _ _ _ hG]; rfl, ent2, fun W' hW => clo2_any a c T hf ok B W' ((hW.block _ gB).trans hB) (h.below hW)⟩
  | 3, _ => exact ⟨_, _, by rw [cell_of_row _ _ _ _ _ _ hG]; rfl, ent3, fun W' hW => clo3_any a c T hf ok B Bc W' ((hW.block _ gB).trans hB) ((hW.cell (p := ⟨Bc, 0, none⟩) gc).trans hc) (h.below hW)⟩
  | 4, _ => exact ⟨_, _, by rw [cell_of_row _ _ _ _ _ _ hG]; rfl, ent4, fun W' hW => clo4_any a c T hf ok B Bs Br Bc W' ((hW.block _ gB).trans hB) ((hW.cell (p := ⟨Bs, 0, none⟩) gs).trans hs) ((hW.cell (p := ⟨Br, 0, none⟩) gr).trans hr) ((hW.cell (p := ⟨Bc, 0, none⟩) gc).trans hc) (h.below hW)⟩
  | 5, _ => exact ⟨_, _, by rw [cell_of_row _ _ _ _ _ _ hG]; rfl, ent5, fun W' hW => clo5_any a c T hf ok B W' ((hW.block _ gB).trans hB) (h.below hW)⟩
  | 6, _ => exact ⟨_, _, by rw [cell_of_row _ _ _ _ _ _ hG]; rfl, ent6, fun W' hW => clo6_any a c T hf ok B W' ((hW.block _ gB).trans hB) (h.below hW)⟩
  | 7, _ => exact ⟨_, _, by rw [cell_of_row _ _ _ _ _ _ hG]; rfl, ent7, fun W' hW => clo7_any a c T hf ok B Bs W' ((hW.block _ gB).trans hB) ((hW.cell (p := ⟨Bs, 0, none⟩) gs).trans hs) (h.below hW)⟩
  | 8, _ => exact ⟨_, _, by rw [cell_of_row _ _ _ _ _ _ hG]; rfl, ent8, fun W' hW => clo8_any a c T hf ok B Bs W' ((hW.block _ gB).trans hB) ((hW.cell (p := ⟨Bs, 0, none⟩) gs).trans hs) (h.below hW)⟩
  | 9, _ => exact ⟨_, _, by rw [cell_of_row _ _ _ _ _ _ hG]; rfl, ent9, fun W' hW => clo9_any a c T hf ok B W' ((hW.block _ gB).trans hB) (h.below hW)⟩
  | n + 10, h => omega
end Go.Proofs.YtkhalnjgbdpfhaaGreat
