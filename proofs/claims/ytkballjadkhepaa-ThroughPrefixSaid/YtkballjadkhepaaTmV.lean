/-
  The law ThroughPrefix: each answers true for every input; nothing that existed before the call has changed behind it. Condition: lengths of 63 bits.
-/
import Derived.Test.YtkballjadkhepaaTmO
import Derived.Lib.MinMax
namespace Go.Proofs.Ytkballjadkhepaa
open Go.RowKit

theorem info_gg : (Try.prog.info? 62).map (fun i => (i.zero, i.size, i.bytes)) = some (some (.agg #[.int .i64 0, .int .i64 0, .int .i64 0]), 3, 24) := by kernel_rfl
theorem size_gg : ∀ w, (Go.sizeOf 62).run Try.prog w = .ok 3 w := fun w => by
  obtain ⟨i, hi, _, hsz, _⟩ := info_parts info_gg
  simp [sizeOf, typeInfo, hi, hsz]
theorem elem_ggs : Try.prog.elem 23 = 62 := by simp [Program.elem, Try.underlying23]
theorem under_ggs : Try.prog.underlying 23 = some (.slice (Try.prog.elem 23)) := by rw [elem_ggs]; exact Try.underlying23
/-- The part l[:j]. -/
theorem gus_to {w : World} {vl : Value} {l : List Gt} (h : LstU w vl l) (j : Nat) (hj : j ≤ l.length) (_ : l.length ≤ 9223372036854775807) (x : Int) (hx : x = j) : ∃ u, (∀ W, (Instr.slice 23 vl none (some (.int .i64 x)) none).run Try.prog W = .ok u W) ∧ LstU w u (l.take j) := by
  subst hx
  have H := h
  obtain ⟨A, c, rfl, hc, -, -⟩ := h
  refine ⟨sliced A 0 j c 3, fun W => ?_, ?_⟩
  · rw [run_slice_h W 23 A l.length c under_ggs .i64 j (by omega) (by omega), elem_ggs, size_gg]
    rfl
  · have := LstG.part gg_len H 0 j c (Nat.zero_le _) hj (by omega) (Nat.le_refl _)
    rw [List.drop_zero, Nat.sub_zero] at this
    exact this
theorem Gus64.take {l : List Gt} (h : Gus64 l) (k : Nat) : Gus64 (l.take k) := fun x hx => h x (List.mem_of_mem_take hx)
set_option maxRecDepth 100000 in
set_option maxHeartbeats 4000000 in
theorem prefix_law (vl : Value) (l : List Th) (hl : l.length ≤ 9223372036854775807) (hs : Th64 l) (vu : Value) (u : List Gt) (hu : u.length ≤ 9223372036854775807) (hus : Gus64 u) (vt : Value) (ts : List Tp) (ht : ts.length ≤ 9223372036854775807) (_ : OkTs ts) (vf : Value) (f : List Fq) (hf : f.length ≤ 9223372036854775807) (_ : OkFs f) (st : Int) (k : Int) (w : World) (h1 : LstH w vl l) (h2 : LstU w vu u) (h3 : LstTp w vt ts) (h4 : LstF w vf f) : Calls Try.prog 9 #[.agg #[vl, vu, vt, vf, .int .i64 st], .int .i64 k] w fun e w' => e = .returned (.bool true) ∧ Below w.heap.size w w' := by
  obtain ⟨A1, c1, rfl, -, -, -⟩ := id h1
  obtain ⟨A2, c2, rfl, -, -, -⟩ := id h2
  obtain ⟨⟨A3, c3, rfl, -, -, -⟩, -⟩ := id h3
  obtain ⟨A4, c4, rfl, -, -, -⟩ := id h4
  obtain ⟨w7, hw7⟩ : ∃ x, w.alloc (boxB (.slice A1 l.length c1) (.slice A2 u.length c2) (.slice A3 ts.length c3) (.slice A4 f.length c4) st) = x := ⟨_, rfl⟩
  obtain ⟨b7, s7, r7⟩ := box_tb hw7
  obtain ⟨q0, q1, q2, q3, q4⟩ := row_tb r7
  have B7 := Lib.hid b7
  have R7 := Lib.hid r7
  have S7 := Lib.hid s7
  have C1 := Lib.hid (small_any (.slice A1 l.length c1) l (.slice A2 u.length c2) u (.slice A3 ts.length c3) ts (.slice A4 f.length c4) f st hl hu ht hf w7 (h1.below b7) (h2.below b7) (h3.below b7) (h4.below b7))
  have H1 := Lib.hid h1
  have H2 := Lib.hid h2
  have H3 := Lib.hid h3
  have H4 := Lib.hid h4
  clear b7 s7 r7 h1 h2 h3 h4
  cases hsm : smF l u ts f with
  | false =>
    rw [hsm] at C1
    clear hsm
    go_enter Try.func9, Try.ntmps9
    go_wp2_with fail
    refine C1.out.mono ?_
    rintro e w1 ⟨rfl, b1⟩
    have B1 : Hid (Below w.heap.size w w1) := B7.out.trans (b1.mono B7.out.size)
    have R1 : Hid (w1.heap[w.heap.size]? = some (boxB (.slice A1 l.length c1) (.slice A2 u.length c2) (.slice A3 ts.length c3) (.slice A4 f.length c4) st)) := (b1.block _ S7.out).trans R7.out
    have S1 : Hid (w.heap.size < w1.heap.size) := Nat.lt_of_lt_of_le S7.out b1.size
    clear b1 C1 R7 S7 q0 q1 q2 q3 q4 hw7
    obtain ⟨q0, q1, q2, q3, q4⟩ := row_tb R1.out
    go_wp2_with fail
    refine (ex_any _).mono ?_
    rintro e x9 ⟨rfl, y9⟩
    have B9 : Hid (Below w.heap.size w x9) := B1.out.trans (y9.mono B1.out.size)
    clear y9
    go_wp2_with fail
    go_ret
    exact ⟨rfl, B9.out⟩
  | true =>
  rw [hsm] at C1
  obtain ⟨⟨hl1, hu1, ht1, hf1⟩, hts⟩ := sm_is hsm
  clear hsm
  by_cases n1 : k < 0
  · clear hl1
    go_enter Try.func9, Try.ntmps9
    go_wp2_with fail
    refine C1.out.mono ?_
    rintro e w1 ⟨rfl, b1⟩
    have B1 : Hid (Below w.heap.size w w1) := B7.out.trans (b1.mono B7.out.size)
    have R1 : Hid (w1.heap[w.heap.size]? = some (boxB (.slice A1 l.length c1) (.slice A2 u.length c2) (.slice A3 ts.length c3) (.slice A4 f.length c4) st)) := (b1.block _ S7.out).trans R7.out
    have S1 : Hid (w.heap.size < w1.heap.size) := Nat.lt_of_lt_of_le S7.out b1.size
    clear b1 C1 R7 S7 q0 q1 q2 q3 q4 hw7
    obtain ⟨q0, q1, q2, q3, q4⟩ := row_tb R1.out
    go_wp2_with fail
    refine (ex_any _).mono ?_
    rintro e x9 ⟨rfl, y9⟩
    have B9 : Hid (Below w.heap.size w x9) := B1.out.trans (y9.mono B1.out.size)
    clear y9
    go_wp2_with fail
    go_ret
    exact ⟨rfl, B9.out⟩
  have g1 : decide (k < 0) = false := decide_eq_false n1
  obtain ⟨m1, hm1⟩ : ∃ m : Nat, min k (l.length : Int) = (m : Int) := ⟨(min k (l.length : Int)).toNat, by omega⟩
  obtain ⟨m2, hm2⟩ : ∃ m : Nat, min k (u.length : Int) = (m : Int) := ⟨(min k (u.length : Int)).toNat, by omega⟩
  have ml1 : m1 ≤ l.length := by omega
  have ml2 : m2 ≤ u.length := by omega
  obtain ⟨va, sa, la⟩ := ths_to H1.out m1 ml1 (by omega) (m1 : Int) rfl
  obtain ⟨vb, sb, lb⟩ := gus_to H2.out m2 ml2 (by omega) (m2 : Int) rfl
  have K1 := Lib.hid (fun W (hW : Below w.heap.size w W) => kchkh_any (.slice A1 l.length c1) l (by omega) hs (.slice A3 ts.length c3) ts hts (.slice A4 f.length c4) f (by omega) W (H1.out.below hW) (H3.out.below hW) (H4.out.below hW))
  have K2 := Lib.hid (fun W (hW : Below w.heap.size w W) => kchkh_any va (l.take m1) (by rw [List.length_take]; omega) (hs.take m1) (.slice A3 ts.length c3) ts hts (.slice A4 f.length c4) f (by omega) W (la.below hW) (H3.out.below hW) (H4.out.below hW))
  have K3 := Lib.hid (fun W (hW : Below w.heap.size w W) => kchku_any (.slice A2 u.length c2) u (by omega) hus (.slice A3 ts.length c3) ts hts (.slice A4 f.length c4) f (by omega) st W (H2.out.below hW) (H3.out.below hW) (H4.out.below hW))
  have K4 := Lib.hid (fun W (hW : Below w.heap.size w W) => kchku_any vb (u.take m2) (by rw [List.length_take]; omega) (hus.take m2) (.slice A3 ts.length c3) ts hts (.slice A4 f.length c4) f (by omega) st W (lb.below hW) (H3.out.below hW) (H4.out.below hW))
  have I1 : Hid ((chkH (ts.map tcT) f l).2 = 0 → (chkH (ts.map tcT) f (l.take m1)).2 = 0) := fun h => chkH_take h m1
  have I2 : Hid ((chkU (ts.map tcT) f st u).2 = 0 → (chkU (ts.map tcT) f st (u.take m2)).2 = 0) := fun h => chkU_take h m2
  generalize (chkH (ts.map tcT) f l).1 = p1 at K1
  generalize (chkH (ts.map tcT) f l).2 = r1 at K1 I1
  generalize (chkH (ts.map tcT) f (l.take m1)).1 = p2 at K2
  generalize (chkH (ts.map tcT) f (l.take m1)).2 = r2 at K2 I1
  generalize (chkU (ts.map tcT) f st u).1 = p3 at K3
  generalize (chkU (ts.map tcT) f st u).2 = r3 at K3 I2
  generalize (chkU (ts.map tcT) f st (u.take m2)).1 = p4 at K4
  generalize (chkU (ts.map tcT) f st (u.take m2)).2 = r4 at K4 I2
  have HM1 := Lib.hid hm1
  have HM2 := Lib.hid hm2
  clear hs hus la lb hts hl1 hu1 ht1 hf1 ml1 ml2 hm1 hm2
  go_enter Try.func9, Try.ntmps9
  go_wp2_with fail
  refine C1.out.mono ?_
  rintro e w1 ⟨rfl, b1⟩
  have B1 : Hid (Below w.heap.size w w1) := B7.out.trans (b1.mono B7.out.size)
  have R1 : Hid (w1.heap[w.heap.size]? = some (boxB (.slice A1 l.length c1) (.slice A2 u.length c2) (.slice A3 ts.length c3) (.slice A4 f.length c4) st)) := (b1.block _ S7.out).trans R7.out
  have S1 : Hid (w.heap.size < w1.heap.size) := Nat.lt_of_lt_of_le S7.out b1.size
  clear b1 C1 R7 S7 q0 q1 q2 q3 q4 hw7
  obtain ⟨q0, q1, q2, q3, q4⟩ := row_tb R1.out
  go_wp2_with fail
  refine (K1.out w1 B1.out).mono ?_
  rintro e w2 ⟨rfl, b2⟩
  have B2 : Hid (Below w.heap.size w w2) := B1.out.trans (b2.mono B1.out.size)
  have R2 : Hid (w2.heap[w.heap.size]? = some (boxB (.slice A1 l.length c1) (.slice A2 u.length c2) (.slice A3 ts.length c3) (.slice A4 f.length c4) st)) := (b2.block _ S1.out).trans R1.out
  have S2 : Hid (w.heap.size < w2.heap.size) := Nat.lt_of_lt_of_le S1.out b2.size
  clear b2 R1 S1 q0 q1 q2 q3 q4
  obtain ⟨q0, q1, q2, q3, q4⟩ := row_tb R2.out
  have J2 := Lib.hid (fun W (hW : Below w2.heap.size w2 W) => far_one (K2.out W (B2.out.trans (hW.mono B2.out.size))) hW)
  have hm1 := HM1.out
  clear K1 K2
  go_wp2_with fail
  go_region_held3 (fun W => W.cell? ⟨w.heap.size, 0, none⟩ = some (.slice A1 l.length c1) ∧ W.cell? ⟨w.heap.size, 2, none⟩ = some (.slice A3 ts.length c3) ∧ W.cell? ⟨w.heap.size, 3, none⟩ = some (.slice A4 f.length c4)) (first | assumption | (exact ⟨by assumption, by assumption, by assumption⟩)) (first
    | (go_at_call 13; with_reducible refine (J2.out _ (by first | exact Below.refl _ _ | exact (Below.refl _ _).drew)).mono ?_; rintro e w3 ⟨rfl, b3⟩; have y0 := (b3.cell (p := ⟨w.heap.size, 0, none⟩) S2.out).trans q0; have y2 := (b3.cell (p := ⟨w.heap.size, 2, none⟩) S2.out).trans q2; have y3 := (b3.cell (p := ⟨w.heap.size, 3, none⟩) S2.out).trans q3))
  clear y0 y2 y3
  have B3 : Hid (Below w.heap.size w w3) := B2.out.trans (b3.mono B2.out.size)
  have R3 : Hid (w3.heap[w.heap.size]? = some (boxB (.slice A1 l.length c1) (.slice A2 u.length c2) (.slice A3 ts.length c3) (.slice A4 f.length c4) st)) := (b3.block _ S2.out).trans R2.out
  have S3 : Hid (w.heap.size < w3.heap.size) := Nat.lt_of_lt_of_le S2.out b3.size
  clear b3 R2 S2 q0 q1 q2 q3 q4
  obtain ⟨q0, q1, q2, q3, q4⟩ := row_tb R3.out
  clear J2 hm1
  go_wp2_with fail
  refine (K3.out w3 B3.out).mono ?_
  rintro e w4 ⟨rfl, b4⟩
  have B4 : Hid (Below w.heap.size w w4) := B3.out.trans (b4.mono B3.out.size)
  have R4 : Hid (w4.heap[w.heap.size]? = some (boxB (.slice A1 l.length c1) (.slice A2 u.length c2) (.slice A3 ts.length c3) (.slice A4 f.length c4) st)) := (b4.block _ S3.out).trans R3.out
  have S4 : Hid (w.heap.size < w4.heap.size) := Nat.lt_of_lt_of_le S3.out b4.size
  clear b4 R3 S3 q0 q1 q2 q3 q4
  obtain ⟨q0, q1, q2, q3, q4⟩ := row_tb R4.out
  have J4 := Lib.hid (fun W (hW : Below w4.heap.size w4 W) => far_one (K4.out W (B4.out.trans (hW.mono B4.out.size))) hW)
  have hm2 := HM2.out
  clear K3 K4
  go_wp2_with fail
  go_region_held3 (fun W => W.cell? ⟨w.heap.size, 1, none⟩ = some (.slice A2 u.length c2) ∧ W.cell? ⟨w.heap.size, 2, none⟩ = some (.slice A3 ts.length c3) ∧ W.cell? ⟨w.heap.size, 3, none⟩ = some (.slice A4 f.length c4) ∧ W.cell? ⟨w.heap.size, 4, none⟩ = some (.int .i64 st)) (first | assumption | (exact ⟨by assumption, by assumption, by assumption, by assumption⟩)) (first
    | (go_at_call 15; with_reducible refine (J4.out _ (by first | exact Below.refl _ _ | exact (Below.refl _ _).drew)).mono ?_; rintro e w5 ⟨rfl, b5⟩; have y1 := (b5.cell (p := ⟨w.heap.size, 1, none⟩) S4.out).trans q1; have y2 := (b5.cell (p := ⟨w.heap.size, 2, none⟩) S4.out).trans q2; have y3 := (b5.cell (p := ⟨w.heap.size, 3, none⟩) S4.out).trans q3; have y4 := (b5.cell (p := ⟨w.heap.size, 4, none⟩) S4.out).trans q4))
  clear y1 y2 y3 y4
  have B5 : Hid (Below w.heap.size w w5) := B4.out.trans (b5.mono B4.out.size)
  have R5 : Hid (w5.heap[w.heap.size]? = some (boxB (.slice A1 l.length c1) (.slice A2 u.length c2) (.slice A3 ts.length c3) (.slice A4 f.length c4) st)) := (b5.block _ S4.out).trans R4.out
  have S5 : Hid (w.heap.size < w5.heap.size) := Nat.lt_of_lt_of_le S4.out b5.size
  clear b5 R4 S4 q0 q1 q2 q3 q4
  obtain ⟨q0, q1, q2, q3, q4⟩ := row_tb R5.out
  clear J4 hm2 q0 q1 q2 q3 q4
  by_cases x1 : r1 = 0
  · have x2 := I1.out x1
    have y1 := neq_false x1
    have y2 := beq_true x2
    clear x1 x2 I1
    by_cases x3 : r3 = 0
    · have x4 := I2.out x3
      have y3 := neq_false x3
      have y4 := beq_true x4
      clear x3 x4 I2
      go_wp2_with fail
      refine (ex_any _).mono ?_
      rintro e x9 ⟨rfl, y9⟩
      have B9 : Hid (Below w.heap.size w x9) := B5.out.trans (y9.mono B5.out.size)
      clear y9
      go_wp2_with fail
      go_ret
      exact ⟨rfl, B9.out⟩
    · have y3 := bne_true x3
      clear x3 I2
      go_wp2_with fail
      refine (ex_any _).mono ?_
      rintro e x9 ⟨rfl, y9⟩
      have B9 : Hid (Below w.heap.size w x9) := B5.out.trans (y9.mono B5.out.size)
      clear y9
      go_wp2_with fail
      go_ret
      exact ⟨rfl, B9.out⟩
  · have y1 := bne_true x1
    clear x1 I1
    by_cases x3 : r3 = 0
    · have x4 := I2.out x3
      have y3 := neq_false x3
      have y4 := beq_true x4
      clear x3 x4 I2
      go_wp2_with fail
      refine (ex_any _).mono ?_
      rintro e x9 ⟨rfl, y9⟩
      have B9 : Hid (Below w.heap.size w x9) := B5.out.trans (y9.mono B5.out.size)
      clear y9
      go_wp2_with fail
      go_ret
      exact ⟨rfl, B9.out⟩
    · have y3 := bne_true x3
      clear x3 I2
      go_wp2_with fail
      refine (ex_any _).mono ?_
      rintro e x9 ⟨rfl, y9⟩
      have B9 : Hid (Below w.heap.size w x9) := B5.out.trans (y9.mono B5.out.size)
      clear y9
      go_wp2_with fail
      go_ret
      exact ⟨rfl, B9.out⟩
end Go.Proofs.Ytkballjadkhepaa
