/-
  The laws' small, and the laws ThroughChecks, ThroughGuarantees, ThroughNext, ThroughChains, ThroughMeets: each answers true for every input; nothing that existed before the call has changed behind it. Condition: lengths of 63 bits.
-/
import Derived.Test.YtkballjadkhepaaTmX
import Derived.Test.YtkballjadkhepaaTmR
import Derived.Test.YtkballjadkhepaaTmQ
import Derived.Test.YtkballjadkhepaaTpO
namespace Go.Proofs.Ytkballjadkhepaa
open Go.RowKit

/-- What is asked of the frequencies among the arguments beside what the world says of them: nothing. -/
def OkFs (_ : List Fq) : Prop := True
/-- Calls among the arguments: nothing is asked beside what the world says of them. -/
def OkCs (_ : List Cl) : Prop := True
/-- A table in a box. -/
abbrev boxB (vl vu vt vf : Value) (st : Int) : Obj := .cells #[vl, vu, vt, vf, .int .i64 st] 27 (0, 0)
theorem row_tb {w : World} {b : Nat} {vl vu vt vf : Value} {st : Int} (h : w.heap[b]? = some (boxB vl vu vt vf st)) :
    w.cell? ⟨b, 0, none⟩ = some vl ∧ w.cell? ⟨b, 1, none⟩ = some vu ∧ w.cell? ⟨b, 2, none⟩ = some vt ∧ w.cell? ⟨b, 3, none⟩ = some vf ∧ w.cell? ⟨b, 4, none⟩ = some (.int .i64 st) :=
  ⟨by rw [cell_of_row _ _ 0 _ _ _ h]; rfl, by rw [cell_of_row _ _ 1 _ _ _ h]; rfl, by rw [cell_of_row _ _ 2 _ _ _ h]; rfl, by rw [cell_of_row _ _ 3 _ _ _ h]; rfl, by rw [cell_of_row _ _ 4 _ _ _ h]; rfl⟩
theorem box_tb {w w7 : World} {vl vu vt vf : Value} {st : Int} (h : w.alloc (boxB vl vu vt vf st) = w7) : Below w.heap.size w w7 ∧ w.heap.size < w7.heap.size ∧ w7.heap[w.heap.size]? = some (boxB vl vu vt vf st) := by
  subst h
  exact ⟨(Below.refl _ _).alloc (Nat.le_refl _) _, by simp, heap_alloc_new w _⟩
/-- Whether a table is small. -/
def smF (l : List Th) (u : List Gt) (ts : List Tp) (f : List Fq) : Bool := decide (l.length ≤ 150 ∧ u.length ≤ 150 ∧ ts.length ≤ 150 ∧ f.length ≤ 150) && ts.all fun x => decide (x.2.2.2.2.2.length ≤ 40)
section
variable {l : List Th} {u : List Gt} {ts : List Tp} {f : List Fq}
theorem sm_no (h : ¬ (l.length ≤ 150 ∧ u.length ≤ 150 ∧ ts.length ≤ 150 ∧ f.length ≤ 150)) : smF l u ts f = false := by unfold smF; rw [decide_eq_false h]; rfl
theorem sm_stop {k : Nat} {x : Tp} (hx : ts[k]? = some x) (h : ¬ x.2.2.2.2.2.length ≤ 40) : smF l u ts f = false := by
  unfold smF
  rw [show (ts.all fun x => decide (x.2.2.2.2.2.length ≤ 40)) = false from ?_, Bool.and_false]
  rw [List.all_eq_false]
  exact ⟨x, List.mem_iff_getElem?.2 ⟨k, hx⟩, by rw [decide_eq_false h]; simp⟩
theorem sm_yes (h : l.length ≤ 150 ∧ u.length ≤ 150 ∧ ts.length ≤ 150 ∧ f.length ≤ 150) (hx : ∀ (j : Nat) x, ts[j]? = some x → x.2.2.2.2.2.length ≤ 40) : smF l u ts f = true := by
  unfold smF
  rw [decide_eq_true h, Bool.true_and, List.all_eq_true]
  intro x hm
  obtain ⟨j, hj⟩ := List.mem_iff_getElem?.1 hm
  exact decide_eq_true (hx j x hj)
theorem sm_is (h : smF l u ts f = true) : (l.length ≤ 150 ∧ u.length ≤ 150 ∧ ts.length ≤ 150 ∧ f.length ≤ 150) ∧ ∀ x ∈ ts, x.2.2.2.2.2.length ≤ 1000000 := by
  unfold smF at h
  rw [Bool.and_eq_true, decide_eq_true_iff, List.all_eq_true] at h
  exact ⟨h.1, fun x hx => Nat.le_trans (of_decide_eq_true (h.2 x hx)) (by decide)⟩
end
set_option maxRecDepth 100000 in
set_option maxHeartbeats 4000000 in
theorem small_any (vl : Value) (l : List Th) (vu : Value) (u : List Gt) (vt : Value) (ts : List Tp) (vf : Value) (f : List Fq) (st : Int) (hl : l.length ≤ 9223372036854775807) (hu : u.length ≤ 9223372036854775807) (ht : ts.length ≤ 9223372036854775807) (hf : f.length ≤ 9223372036854775807) (w : World) (h1 : LstH w vl l) (h2 : LstU w vu u) (h3 : LstTp w vt ts) (h4 : LstF w vf f) : Calls Try.prog 11 #[.agg #[vl, vu, vt, vf, .int .i64 st]] w fun e w' => e = .returned (.bool (smF l u ts f)) ∧ Below w.heap.size w w' := by
  obtain ⟨A1, c1, rfl, -, -, -⟩ := id h1
  obtain ⟨A2, c2, rfl, -, -, -⟩ := id h2
  obtain ⟨⟨A3, c3, rfl, -, -, -⟩, -⟩ := id h3
  obtain ⟨A4, c4, rfl, -, -, -⟩ := id h4
  obtain ⟨w7, hw7⟩ : ∃ x, w.alloc (boxB (.slice A1 l.length c1) (.slice A2 u.length c2) (.slice A3 ts.length c3) (.slice A4 f.length c4) st) = x := ⟨_, rfl⟩
  obtain ⟨b7, s7, r7⟩ := box_tb hw7
  obtain ⟨q0, q1, q2, q3, q4⟩ := row_tb r7
  have B7 := Lib.hid b7
  have T7 := Lib.hid (h3.below b7)
  obtain ⟨Q, hQ⟩ : ∃ Q, smF l u ts f = Q := ⟨_, rfl⟩
  rw [hQ]
  have HQ := Lib.hid hQ
  clear hQ b7 s7 r7 h1 h2 h3 h4
  by_cases n0 : ¬ l.length ≤ 150
  · have g : (150 : Int) < (l.length : Int) := by omega
    have R : Hid (Q = false) := HQ.out.symm.trans (sm_no (fun h => n0 h.1))
    clear n0 HQ
    go_enter Try.func11, Try.ntmps11
    go_wp2_with fail
    go_ret
    exact ⟨ret_bool R.out.symm, B7.out⟩
  have n0 := Decidable.not_not.1 n0
  have g0 : decide ((150 : Int) < (l.length : Int)) = false := decide_eq_false (by omega)
  by_cases n1 : ¬ u.length ≤ 150
  · have g : (150 : Int) < (u.length : Int) := by omega
    have R : Hid (Q = false) := HQ.out.symm.trans (sm_no (fun h => n1 h.2.1))
    clear n1 HQ
    go_enter Try.func11, Try.ntmps11
    go_wp2_with fail
    go_ret
    exact ⟨ret_bool R.out.symm, B7.out⟩
  have n1 := Decidable.not_not.1 n1
  have g1 : decide ((150 : Int) < (u.length : Int)) = false := decide_eq_false (by omega)
  by_cases n2 : ¬ ts.length ≤ 150
  · have g : (150 : Int) < (ts.length : Int) := by omega
    have R : Hid (Q = false) := HQ.out.symm.trans (sm_no (fun h => n2 h.2.2.1))
    clear n2 HQ
    go_enter Try.func11, Try.ntmps11
    go_wp2_with fail
    go_ret
    exact ⟨ret_bool R.out.symm, B7.out⟩
  have n2 := Decidable.not_not.1 n2
  have g2 : decide ((150 : Int) < (ts.length : Int)) = false := decide_eq_false (by omega)
  by_cases n3 : ¬ f.length ≤ 150
  · have g : (150 : Int) < (f.length : Int) := by omega
    have R : Hid (Q = false) := HQ.out.symm.trans (sm_no (fun h => n3 h.2.2.2))
    clear n3 HQ
    go_enter Try.func11, Try.ntmps11
    go_wp2_with fail
    go_ret
    exact ⟨ret_bool R.out.symm, B7.out⟩
  have n3 := Decidable.not_not.1 n3
  have g3 : decide ((150 : Int) < (f.length : Int)) = false := decide_eq_false (by omega)
  have SM := Lib.hid (And.intro n0 (And.intro n1 (And.intro n2 n3)))
  clear n0 n1 n2 n3
  go_enter Try.func11, Try.ntmps11
  go_wp2_with fail
  clear q0 q1 q2 q3 q4 hw7 g0 g1 g2 g3
  go_loopw [30] (fun i wr => ∃ k : Nat, i = .int .i64 k ∧ k ≤ ts.length ∧ Hid (∀ (j : Nat) x, j < k → ts[j]? = some x → x.2.2.2.2.2.length ≤ 40) ∧ Hid (Below w7.heap.size w7 wr)) (fun i _ => ts.length - (intOf i).toNat)
  case atStart => exact ⟨0, rfl, Nat.zero_le _, Lib.hid (fun j x hj => absurd hj (Nat.not_lt_zero _)), Lib.hid (Below.refl _ _)⟩
  case round =>
    obtain ⟨k, rfl, hk, hall, HB⟩ := hrel
    by_cases hlt : k < ts.length
    · obtain ⟨⟨id, r, c, q, v, cl⟩, hx⟩ := at_lt hlt
      obtain ⟨nm, hnm⟩ : ∃ nm, str id = nm := ⟨_, rfl⟩
      obtain ⟨b, o, B, m, rfl, rfl, hb, r0, r1, r2, r3, r4, -, lcl, -⟩ := trip_at (T7.out.below HB.out) hx hnm
      obtain ⟨w8, hw8⟩ : ∃ W, wr.alloc (.cells #[.string nm, .int .i64 r, .int .i64 c, .bool q, .slice B cl.length m] 49 (0, 0)) = W := ⟨_, rfl⟩
      obtain ⟨b8, p0, p1, p2, p3, p4, s8⟩ := box_tp hw8
      have gk : (k : Int) < (ts.length : Int) := by omega
      have B8 : Hid (Below w7.heap.size w7 w8) := HB.out.trans (b8.mono HB.out.size)
      clear b8 s8 hb HB
      by_cases h40 : ¬ cl.length ≤ 40
      · have g : (40 : Int) < (cl.length : Int) := by omega
        have R : Hid (Q = false) := HQ.out.symm.trans (sm_stop hx h40)
        have W8 : Hid (Below w.heap.size w w8) := B7.out.trans (B8.out.mono B7.out.size)
        clear h40 HQ hx hall hnm
        go_wp2_with fail
        go_ret
        exact ⟨ret_bool R.out.symm, W8.out⟩
      have h40 := Decidable.not_not.1 h40
      have g : decide ((40 : Int) < (cl.length : Int)) = false := decide_eq_false (by omega)
      have N : Hid (∀ (j : Nat) x, j < k + 1 → ts[j]? = some x → x.2.2.2.2.2.length ≤ 40) := by
        intro j z hj hz
        by_cases hjk : j < k
        · exact hall.out j z hjk hz
        · obtain rfl : j = k := by omega
          rw [hx] at hz
          obtain rfl := Option.some.inj hz
          exact h40
      clear hall hx h40 hnm
      go_wp2_with fail
      go_roundw
      case rel => exact ⟨k + 1, by go_num, by omega, N, B8⟩
      case measure => simp [intOf]; omega
    · have R : Hid (Q = true) := HQ.out.symm.trans (sm_yes SM.out (fun j x hj => hall.out j x (by have := (List.getElem?_eq_some_iff.1 hj).1; omega) hj))
      have d : decide (k < ts.length) = false := by rw [decide_eq_false_iff_not]; exact hlt
      have W8 : Hid (Below w.heap.size w wr) := B7.out.trans (HB.out.mono B7.out.size)
      clear hall hlt HQ
      go_wp2_with fail
      go_ret
      exact ⟨ret_bool R.out.symm, W8.out⟩
set_option maxRecDepth 100000 in
set_option maxHeartbeats 4000000 in
theorem checks_law (vl : Value) (l : List Th) (hl : l.length ≤ 9223372036854775807) (hs : Th64 l) (vu : Value) (u : List Gt) (hu : u.length ≤ 9223372036854775807) (_ : Gus64 u) (vt : Value) (ts : List Tp) (ht : ts.length ≤ 9223372036854775807) (_ : OkTs ts) (vf : Value) (f : List Fq) (hf : f.length ≤ 9223372036854775807) (_ : OkFs f) (st : Int) (w : World) (h1 : LstH w vl l) (h2 : LstU w vu u) (h3 : LstTp w vt ts) (h4 : LstF w vf f) : Calls Try.prog 3 #[.agg #[vl, vu, vt, vf, .int .i64 st]] w fun e w' => e = .returned (.bool true) ∧ Below w.heap.size w w' := by
  obtain ⟨A1, c1, rfl, -, -, -⟩ := id h1
  obtain ⟨A2, c2, rfl, -, -, -⟩ := id h2
  obtain ⟨⟨A3, c3, rfl, -, -, -⟩, -⟩ := id h3
  obtain ⟨A4, c4, rfl, -, -, -⟩ := id h4
  obtain ⟨w7, hw7⟩ : ∃ x, w.alloc (boxB (.slice A1 l.length c1) (.slice A2 u.length c2) (.slice A3 ts.length c3) (.slice A4 f.length c4) st) = x := ⟨_, rfl⟩
  obtain ⟨b7, s7, r7⟩ := box_tb hw7
  obtain ⟨q0, q1, q2, q3, q4⟩ := row_tb r7
  have B7 := Lib.hid b7
  have R7 := Lib.hid r7
  have S7 := Lib.hid s7
  have C1 := Lib.hid (small_any (.slice A1 l.length c1) l (.slice A2 u.length c2) u (.slice A3 ts.length c3) ts (.slice A4 f.length c4) f st hl hu ht hf w7 (h1.below b7) (h2.below b7) (h3.below b7) (h4.below b7))
  have H1 := Lib.hid h1
  have H2 := Lib.hid h2
  have H3 := Lib.hid h3
  have H4 := Lib.hid h4
  clear b7 s7 r7 h1 h2 h3 h4
  cases hsm : smF l u ts f with
  | false =>
    rw [hsm] at C1
    clear hsm
    go_enter Try.func3, Try.ntmps3
    go_wp2_with fail
    refine C1.out.mono ?_
    rintro e w1 ⟨rfl, b1⟩
    have B1 : Hid (Below w.heap.size w w1) := B7.out.trans (b1.mono B7.out.size)
    have R1 : Hid (w1.heap[w.heap.size]? = some (boxB (.slice A1 l.length c1) (.slice A2 u.length c2) (.slice A3 ts.length c3) (.slice A4 f.length c4) st)) := (b1.block _ S7.out).trans R7.out
    have S1 : Hid (w.heap.size < w1.heap.size) := Nat.lt_of_lt_of_le S7.out b1.size
    clear b1 C1 R7 S7 q0 q1 q2 q3 q4 hw7
    go_wp2_with fail
    refine (ex_any _).mono ?_
    rintro e x9 ⟨rfl, y9⟩
    have B9 : Hid (Below w.heap.size w x9) := B1.out.trans (y9.mono B1.out.size)
    clear y9
    go_wp2_with fail
    go_ret
    exact ⟨rfl, B9.out⟩
  | true =>
    rw [hsm] at C1
    obtain ⟨⟨hl1, hu1, ht1, hf1⟩, hts⟩ := sm_is hsm
    have K := Lib.hid (fun W (hW : Below w.heap.size w W) => kchkh_any (.slice A1 l.length c1) l (by omega) hs (.slice A3 ts.length c3) ts hts (.slice A4 f.length c4) f (by omega) W (H1.out.below hW) (H3.out.below hW) (H4.out.below hW))
    have R := Lib.hid (fun W (hW : Below w.heap.size w W) => rchkh_any (.slice A1 l.length c1) l (by omega) (.slice A3 ts.length c3) ts (by omega) hts (.slice A4 f.length c4) f (by omega) W (H1.out.below hW) (H3.out.below hW) (H4.out.below hW))
    generalize (chkH (ts.map tcT) f l).1 = p at K R
    generalize (chkH (ts.map tcT) f l).2 = q at K R
    have t1 := beq_true (a := p) rfl
    have t2 := beq_true (a := q) rfl
    clear hsm hts hs
    go_enter Try.func3, Try.ntmps3
    go_wp2_with fail
    refine C1.out.mono ?_
    rintro e w1 ⟨rfl, b1⟩
    have B1 : Hid (Below w.heap.size w w1) := B7.out.trans (b1.mono B7.out.size)
    have R1 : Hid (w1.heap[w.heap.size]? = some (boxB (.slice A1 l.length c1) (.slice A2 u.length c2) (.slice A3 ts.length c3) (.slice A4 f.length c4) st)) := (b1.block _ S7.out).trans R7.out
    have S1 : Hid (w.heap.size < w1.heap.size) := Nat.lt_of_lt_of_le S7.out b1.size
    clear b1 C1 R7 S7 q0 q1 q2 q3 q4 hw7
    obtain ⟨q0, q1, q2, q3, q4⟩ := row_tb R1.out
    go_wp2_with fail
    refine (K.out w1 B1.out).mono ?_
    rintro e w2 ⟨rfl, b2⟩
    have B2 : Hid (Below w.heap.size w w2) := B1.out.trans (b2.mono B1.out.size)
    have R2 : Hid (w2.heap[w.heap.size]? = some (boxB (.slice A1 l.length c1) (.slice A2 u.length c2) (.slice A3 ts.length c3) (.slice A4 f.length c4) st)) := (b2.block _ S1.out).trans R1.out
    have S2 : Hid (w.heap.size < w2.heap.size) := Nat.lt_of_lt_of_le S1.out b2.size
    clear b2 R1 S1 q0 q1 q2 q3 q4
    clear K
    obtain ⟨q0, q1, q2, q3, q4⟩ := row_tb R2.out
    go_wp2_with fail
    refine (R.out w2 B2.out).mono ?_
    rintro e w3 ⟨rfl, b3⟩
    have B3 : Hid (Below w.heap.size w w3) := B2.out.trans (b3.mono B2.out.size)
    clear R b3
    go_wp2_with fail
    refine (ex_any _).mono ?_
    rintro e x9 ⟨rfl, y9⟩
    have B9 : Hid (Below w.heap.size w x9) := B3.out.trans (y9.mono B3.out.size)
    clear y9
    go_wp2_with fail
    go_ret
    exact ⟨rfl, B9.out⟩
set_option maxRecDepth 100000 in
set_option maxHeartbeats 4000000 in
theorem guar_law (vl : Value) (l : List Th) (hl : l.length ≤ 9223372036854775807) (_ : Th64 l) (vu : Value) (u : List Gt) (hu : u.length ≤ 9223372036854775807) (hus : Gus64 u) (vt : Value) (ts : List Tp) (ht : ts.length ≤ 9223372036854775807) (_ : OkTs ts) (vf : Value) (f : List Fq) (hf : f.length ≤ 9223372036854775807) (_ : OkFs f) (st : Int) (w : World) (h1 : LstH w vl l) (h2 : LstU w vu u) (h3 : LstTp w vt ts) (h4 : LstF w vf f) : Calls Try.prog 4 #[.agg #[vl, vu, vt, vf, .int .i64 st]] w fun e w' => e = .returned (.bool true) ∧ Below w.heap.size w w' := by
  obtain ⟨A1, c1, rfl, -, -, -⟩ := id h1
  obtain ⟨A2, c2, rfl, -, -, -⟩ := id h2
  obtain ⟨⟨A3, c3, rfl, -, -, -⟩, -⟩ := id h3
  obtain ⟨A4, c4, rfl, -, -, -⟩ := id h4
  obtain ⟨w7, hw7⟩ : ∃ x, w.alloc (boxB (.slice A1 l.length c1) (.slice A2 u.length c2) (.slice A3 ts.length c3) (.slice A4 f.length c4) st) = x := ⟨_, rfl⟩
  obtain ⟨b7, s7, r7⟩ := box_tb hw7
  obtain ⟨q0, q1, q2, q3, q4⟩ := row_tb r7
  have B7 := Lib.hid b7
  have R7 := Lib.hid r7
  have S7 := Lib.hid s7
  have C1 := Lib.hid (small_any (.slice A1 l.length c1) l (.slice A2 u.length c2) u (.slice A3 ts.length c3) ts (.slice A4 f.length c4) f st hl hu ht hf w7 (h1.below b7) (h2.below b7) (h3.below b7) (h4.below b7))
  have H1 := Lib.hid h1
  have H2 := Lib.hid h2
  have H3 := Lib.hid h3
  have H4 := Lib.hid h4
  clear b7 s7 r7 h1 h2 h3 h4
  cases hsm : smF l u ts f with
  | false =>
    rw [hsm] at C1
    clear hsm
    go_enter Try.func4, Try.ntmps4
    go_wp2_with fail
    refine C1.out.mono ?_
    rintro e w1 ⟨rfl, b1⟩
    have B1 : Hid (Below w.heap.size w w1) := B7.out.trans (b1.mono B7.out.size)
    have R1 : Hid (w1.heap[w.heap.size]? = some (boxB (.slice A1 l.length c1) (.slice A2 u.length c2) (.slice A3 ts.length c3) (.slice A4 f.length c4) st)) := (b1.block _ S7.out).trans R7.out
    have S1 : Hid (w.heap.size < w1.heap.size) := Nat.lt_of_lt_of_le S7.out b1.size
    clear b1 C1 R7 S7 q0 q1 q2 q3 q4 hw7
    go_wp2_with fail
    refine (ex_any _).mono ?_
    rintro e x9 ⟨rfl, y9⟩
    have B9 : Hid (Below w.heap.size w x9) := B1.out.trans (y9.mono B1.out.size)
    clear y9
    go_wp2_with fail
    go_ret
    exact ⟨rfl, B9.out⟩
  | true =>
    rw [hsm] at C1
    obtain ⟨⟨hl1, hu1, ht1, hf1⟩, hts⟩ := sm_is hsm
    have K := Lib.hid (fun W (hW : Below w.heap.size w W) => kchku_any (.slice A2 u.length c2) u (by omega) hus (.slice A3 ts.length c3) ts hts (.slice A4 f.length c4) f (by omega) st W (H2.out.below hW) (H3.out.below hW) (H4.out.below hW))
    have R := Lib.hid (fun W (hW : Below w.heap.size w W) => rchku_any (.slice A2 u.length c2) u (by omega) (.slice A3 ts.length c3) ts (by omega) hts (.slice A4 f.length c4) f (by omega) st W (H2.out.below hW) (H3.out.below hW) (H4.out.below hW))
    generalize (chkU (ts.map tcT) f st u).1 = p at K R
    generalize (chkU (ts.map tcT) f st u).2 = q at K R
    have t1 := beq_true (a := p) rfl
    have t2 := beq_true (a := q) rfl
    clear hsm hts hus
    go_enter Try.func4, Try.ntmps4
    go_wp2_with fail
    refine C1.out.mono ?_
    rintro e w1 ⟨rfl, b1⟩
    have B1 : Hid (Below w.heap.size w w1) := B7.out.trans (b1.mono B7.out.size)
    have R1 : Hid (w1.heap[w.heap.size]? = some (boxB (.slice A1 l.length c1) (.slice A2 u.length c2) (.slice A3 ts.length c3) (.slice A4 f.length c4) st)) := (b1.block _ S7.out).trans R7.out
    have S1 : Hid (w.heap.size < w1.heap.size) := Nat.lt_of_lt_of_le S7.out b1.size
    clear b1 C1 R7 S7 q0 q1 q2 q3 q4 hw7
    obtain ⟨q0, q1, q2, q3, q4⟩ := row_tb R1.out
    go_wp2_with fail
    refine (K.out w1 B1.out).mono ?_
    rintro e w2 ⟨rfl, b2⟩
    have B2 : Hid (Below w.heap.size w w2) := B1.out.trans (b2.mono B1.out.size)
    have R2 : Hid (w2.heap[w.heap.size]? = some (boxB (.slice A1 l.length c1) (.slice A2 u.length c2) (.slice A3 ts.length c3) (.slice A4 f.length c4) st)) := (b2.block _ S1.out).trans R1.out
    have S2 : Hid (w.heap.size < w2.heap.size) := Nat.lt_of_lt_of_le S1.out b2.size
    clear b2 R1 S1 q0 q1 q2 q3 q4
    clear K
    obtain ⟨q0, q1, q2, q3, q4⟩ := row_tb R2.out
    go_wp2_with fail
    refine (R.out w2 B2.out).mono ?_
    rintro e w3 ⟨rfl, b3⟩
    have B3 : Hid (Below w.heap.size w w3) := B2.out.trans (b3.mono B2.out.size)
    clear R b3
    go_wp2_with fail
    refine (ex_any _).mono ?_
    rintro e x9 ⟨rfl, y9⟩
    have B9 : Hid (Below w.heap.size w x9) := B3.out.trans (y9.mono B3.out.size)
    clear y9
    go_wp2_with fail
    go_ret
    exact ⟨rfl, B9.out⟩
set_option maxRecDepth 100000 in
set_option maxHeartbeats 4000000 in
theorem next_law (vl : Value) (l : List Th) (hl : l.length ≤ 9223372036854775807) (_ : Th64 l) (t : Int) (w : World) (h : LstH w vl l) : Calls Try.prog 5 #[vl, .int .i64 t] w fun e w' => e = .returned (.bool true) ∧ Below w.heap.size w w' := by
  have H := Lib.hid h
  obtain ⟨A, n, rfl, -, -, -⟩ := h
  by_cases hm : 150 < l.length
  · have g : (150 : Int) < (l.length : Int) := by omega
    have B1 : Hid (Below w.heap.size w w) := Below.refl _ _
    clear hm
    go_enter Try.func5, Try.ntmps5
    go_wp2_with fail
    refine (ex_any _).mono ?_
    rintro e x9 ⟨rfl, y9⟩
    have B9 : Hid (Below w.heap.size w x9) := B1.out.trans (y9.mono B1.out.size)
    clear y9
    go_wp2_with fail
    go_ret
    exact ⟨rfl, B9.out⟩
  have g : decide ((150 : Int) < (l.length : Int)) = false := decide_eq_false (by omega)
  have K := Lib.hid (knx_any (.slice A l.length n) l (by omega) t w H.out)
  have R := Lib.hid (fun W (hW : Below w.heap.size w W) => rnx_any (.slice A l.length n) l (by omega) t W (H.out.below hW))
  generalize nxV t l = p at K R
  generalize nxB t l = q at K R
  have t1 := beq_true (a := p) rfl
  have t2 : (q == q) = true := by simp
  clear hm
  go_enter Try.func5, Try.ntmps5
  go_wp2_with fail
  refine K.out.mono ?_
  rintro e w1 ⟨rfl, b1⟩
  have B1 := Lib.hid b1
  clear b1 K
  go_wp2_with fail
  refine (R.out w1 B1.out).mono ?_
  rintro e w' ⟨rfl, rfl⟩
  clear R
  go_wp2_with fail
  refine (ex_any _).mono ?_
  rintro e x9 ⟨rfl, y9⟩
  have B9 : Hid (Below w.heap.size w x9) := B1.out.trans (y9.mono B1.out.size)
  clear y9
  go_wp2_with fail
  go_ret
  exact ⟨rfl, B9.out⟩
set_option maxRecDepth 100000 in
set_option maxHeartbeats 4000000 in
theorem chains_law (vl : Value) (l : List Th) (hl : l.length ≤ 9223372036854775807) (hs : Th64 l) (t : Int) (t1 : -9223372036854775808 ≤ t) (t2 : t ≤ 9223372036854775807) (w : World) (h : LstH w vl l) : Calls Try.prog 6 #[vl, .int .i64 t] w fun e w' => e = .returned (.bool true) ∧ Below w.heap.size w w' := by
  have H := Lib.hid h
  obtain ⟨A, n, rfl, -, -, -⟩ := h
  by_cases hm : 150 < l.length
  · have g : (150 : Int) < (l.length : Int) := by omega
    have B1 : Hid (Below w.heap.size w w) := Below.refl _ _
    clear hm
    go_enter Try.func6, Try.ntmps6
    go_wp2_with fail
    refine (ex_any _).mono ?_
    rintro e x9 ⟨rfl, y9⟩
    have B9 : Hid (Below w.heap.size w x9) := B1.out.trans (y9.mono B1.out.size)
    clear y9
    go_wp2_with fail
    go_ret
    exact ⟨rfl, B9.out⟩
  have g : decide ((150 : Int) < (l.length : Int)) = false := decide_eq_false (by omega)
  have K := Lib.hid (kchain_any (.slice A l.length n) l (by omega) hs t ⟨t1, t2⟩ w H.out)
  have R := Lib.hid (fun W (hW : Below w.heap.size w W) => rchain_any (.slice A l.length n) l (by omega) t W (H.out.below hW))
  have hcl := ch_len l t
  have S := Lib.hid (fun a b W (hA : LstI W a (chT l t)) (hB : LstI W b (chT l t)) => Calls.below (same_any a b (chT l t) (chT l t) (by omega) W hA hB))
  generalize chT l t = E at K R S
  rw [decide_eq_true (rfl : E = E)] at S
  clear hm hcl t1 t2
  go_enter Try.func6, Try.ntmps6
  go_wp2_with fail
  refine K.out.mono ?_
  rintro e w1 ⟨u1, rfl, o1, b1⟩
  have B1 : Hid (Below w.heap.size w w1) := b1
  have L1 := Lib.hid (OwnI.lst o1)
  clear b1 o1 K
  go_wp2_with fail
  refine (R.out w1 B1.out).mono ?_
  rintro e w2 ⟨u2, rfl, o2, b2⟩
  have B2 : Hid (Below w.heap.size w w2) := B1.out.trans (b2.mono B1.out.size)
  have L2 := Lib.hid (L1.out.below b2)
  have M2 := Lib.hid (OwnI.lst o2)
  clear b2 o2 R L1
  go_wp2_with fail
  refine (S.out _ _ _ L2.out M2.out).mono ?_
  rintro e w3 ⟨rfl, b3⟩
  have B3 : Hid (Below w.heap.size w w3) := B2.out.trans (b3.mono B2.out.size)
  clear b3 S L2 M2
  go_wp2_with fail
  refine (ex_any _).mono ?_
  rintro e x9 ⟨rfl, y9⟩
  have B9 : Hid (Below w.heap.size w x9) := B3.out.trans (y9.mono B3.out.size)
  clear y9
  go_wp2_with fail
  go_ret
  exact ⟨rfl, B9.out⟩
set_option maxRecDepth 100000 in
set_option maxHeartbeats 4000000 in
theorem meets_law (va : Value) (a : List Cl) (ha : a.length ≤ 9223372036854775807) (_ : OkCs a) (vb : Value) (b : List Cl) (hb : b.length ≤ 9223372036854775807) (_ : OkCs b) (st : Int) (w : World) (h1 : LstC w va a) (h2 : LstC w vb b) : Calls Try.prog 7 #[va, vb, .int .i64 st] w fun e w' => e = .returned (.bool true) ∧ Below w.heap.size w w' := by
  have H1 := Lib.hid h1
  have H2 := Lib.hid h2
  obtain ⟨A, n, rfl, -, -, -⟩ := h1
  obtain ⟨B, m, rfl, -, -, -⟩ := h2
  by_cases hm : 100 < a.length
  · have g : (100 : Int) < (a.length : Int) := by omega
    have B1 : Hid (Below w.heap.size w w) := Below.refl _ _
    clear hm
    go_enter Try.func7, Try.ntmps7
    go_wp2_with fail
    refine (ex_any _).mono ?_
    rintro e x9 ⟨rfl, y9⟩
    have B9 : Hid (Below w.heap.size w x9) := B1.out.trans (y9.mono B1.out.size)
    clear y9
    go_wp2_with fail
    go_ret
    exact ⟨rfl, B9.out⟩
  have g : decide ((100 : Int) < (a.length : Int)) = false := decide_eq_false (by omega)
  by_cases hm2 : 100 < b.length
  · have g2 : (100 : Int) < (b.length : Int) := by omega
    have B1 : Hid (Below w.heap.size w w) := Below.refl _ _
    clear hm hm2
    go_enter Try.func7, Try.ntmps7
    go_wp2_with fail
    refine (ex_any _).mono ?_
    rintro e x9 ⟨rfl, y9⟩
    have B9 : Hid (Below w.heap.size w x9) := B1.out.trans (y9.mono B1.out.size)
    clear y9
    go_wp2_with fail
    go_ret
    exact ⟨rfl, B9.out⟩
  have g2 : decide ((100 : Int) < (b.length : Int)) = false := decide_eq_false (by omega)
  have K := Lib.hid (kme_any (.slice A a.length n) (.slice B b.length m) a b (by omega) (by omega) st w H1.out H2.out)
  have R := Lib.hid (fun W (hW : Below w.heap.size w W) => rme_any (.slice A a.length n) (.slice B b.length m) a b (by omega) (by omega) st W (H1.out.below hW) (H2.out.below hW))
  generalize (meT st a b).1 = p at K R
  generalize (meT st a b).2.1 = q at K R
  generalize (meT st a b).2.2 = r at K R
  have t1 := beq_true (a := p) rfl
  have t2 := beq_true (a := q) rfl
  have t3 : (r == r) = true := by simp
  clear hm hm2
  go_enter Try.func7, Try.ntmps7
  go_wp2_with fail
  refine K.out.mono ?_
  rintro e w1 ⟨rfl, b1⟩
  have B1 := Lib.hid b1
  clear b1 K
  go_wp2_with fail
  refine (R.out w1 B1.out).mono ?_
  rintro e w2 ⟨rfl, b2⟩
  have B2 : Hid (Below w.heap.size w w2) := B1.out.trans (b2.mono B1.out.size)
  clear R b2
  go_wp2_with fail
  refine (ex_any _).mono ?_
  rintro e x9 ⟨rfl, y9⟩
  have B9 : Hid (Below w.heap.size w x9) := B2.out.trans (y9.mono B2.out.size)
  clear y9
  go_wp2_with fail
  go_ret
  exact ⟨rfl, B9.out⟩
end Go.Proofs.Ytkballjadkhepaa
