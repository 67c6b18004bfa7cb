/-
  The laws StopNames, StopFirst: each answers true for every input; nothing that existed before the call has changed behind it. Condition: none beyond lengths of 63 bits.
-/
import Derived.Test.YtgjohpbhdgmifaaQLaw
namespace Go.Proofs.Ytgjohpbhdgmifaa
open Go.RowKit

theorem info_stop : (Try.prog.info? 43).map (fun i => (i.zero, i.size, i.bytes)) = some (some (.agg #[.string ByteArray.empty, .int .i64 0, .bool false, .int .i64 0]), 4, 40) := by kernel_rfl
theorem size_stop : ∀ w, (Go.sizeOf 43).run Try.prog w = .ok 4 w := fun w => by
  obtain ⟨i, hi, _, hsz, _⟩ := info_parts info_stop
  simp [sizeOf, typeInfo, hi, hsz]
theorem elem_stops : Try.prog.elem 22 = 43 := by simp [Program.elem, Try.underlying22]
theorem under_stops : Try.prog.underlying 22 = some (.slice (Try.prog.elem 22)) := by rw [elem_stops]; exact Try.underlying22
/-- l[:j]. -/
theorem stops_to {w : World} {v : Value} {l : List St} (h : LstS w v l) (j : Nat) (hj : j ≤ l.length) (_ : l.length ≤ 9223372036854775807) (e : Int) (he : e = j) : ∃ x, (∀ W, (Instr.slice 22 v none (some (.int .i64 e)) none).run Try.prog W = .ok x W) ∧ LstS w x (l.take j) := by
  subst he
  have H := h
  obtain ⟨A, c, rfl, hc, -, -⟩ := h
  refine ⟨sliced A 0 j c 4, fun W => ?_, ?_⟩
  · rw [run_slice_h W 22 A l.length c under_stops .i64 j (by omega) (by omega), elem_stops, size_stop]
    rfl
  · have := LstG.part se_len H 0 j c (Nat.zero_le _) hj (by omega) (Nat.le_refl _)
    rw [List.drop_zero, Nat.sub_zero] at this
    exact this

set_option maxRecDepth 100000 in
set_option maxHeartbeats 4000000 in
theorem names_law (v : Value) (l : List St) (hl : l.length ≤ 9223372036854775807) (_ : OkS l) (w : World) (h : LstS w v l) : Calls Try.prog 7 #[v] w fun e w' => e = .returned (.bool true) ∧ Below w.heap.size w w' := by
  have SM := Lib.hid (small_any v l hl w h)
  have H := Lib.hid h
  obtain ⟨A, c, rfl, -, -, -⟩ := h
  cases hb : smallB l with
  | false =>
    rw [hb] at SM
    clear hb hl
    go_enter Try.func7, Try.ntmps7
    go_wp2_with fail
    refine SM.out.mono ?_
    rintro e w1 ⟨rfl, b1⟩
    have B1 := Lib.hid b1
    clear b1 SM
    go_wp2_with fail
    refine (ex_any w1).mono ?_
    rintro e w2 ⟨rfl, b2⟩
    have B2 := Lib.hid (B1.out.trans (b2.mono B1.out.size))
    clear b2 B1
    go_wp2_with fail
    go_ret
    exact ⟨rfl, B2.out⟩
  | true =>
    rw [hb] at SM
    have HS := Lib.hid (small_id hb)
    clear hb
    by_cases h64 : 64 < l.length
    · have g : (64 : Int) < (l.length : Int) := by omega
      clear h64 HS
      go_enter Try.func7, Try.ntmps7
      go_wp2_with fail
      refine SM.out.mono ?_
      rintro e w1 ⟨rfl, b1⟩
      have B1 := Lib.hid b1
      clear b1 SM
      go_wp2_with fail
      refine (ex_any w1).mono ?_
      rintro e w2 ⟨rfl, b2⟩
      have B2 := Lib.hid (B1.out.trans (b2.mono B1.out.size))
      clear b2 B1
      go_wp2_with fail
      go_ret
      exact ⟨rfl, B2.out⟩
    have g : decide ((64 : Int) < (l.length : Int)) = false := by rw [decide_eq_false_iff_not]; omega
    by_cases hz : (chkT l).2 = 0
    · have GD := Lib.hid (fun (i : Nat) x (hx : l[i]? = some x) => fndT_good hz hx)
      have nz := neq_false (a := (chkT l).2) (b := 0) hz
      have K := Lib.hid (fun W (hW : LstS W (.slice A l.length c) l) => kcheck_any _ l hl HS.out W hW)
      generalize (chkT l).1 = p at K
      generalize (chkT l).2 = q at K nz
      clear hz HS
      go_enter Try.func7, Try.ntmps7
      go_wp2_with fail
      refine SM.out.mono ?_
      rintro e w1 ⟨rfl, b1⟩
      have B1 := Lib.hid b1
      have H1 := Lib.hid (H.out.below b1)
      clear b1 SM H
      go_wp2_with fail
      refine (K.out w1 H1.out).mono ?_
      rintro e w2 ⟨rfl, b2⟩
      have B2 := Lib.hid (B1.out.trans (b2.mono B1.out.size))
      have H2 := Lib.hid (H1.out.below b2)
      clear b2 B1 H1 K
      go_wp2_with fail
      clear g nz
      go_loopw [28] (fun i wr => ∃ k : Nat, i = .int .i64 k ∧ k ≤ l.length ∧ Hid (Below w2.heap.size w2 wr)) (fun i _ => l.length - (intOf i).toNat)
      case atStart => exact ⟨0, rfl, Nat.zero_le _, Lib.hid (Below.refl _ _)⟩
      case round =>
        obtain ⟨k, rfl, hk, HB⟩ := hrel
        by_cases hlt : k < l.length
        · obtain ⟨⟨id, z, f, ch⟩, hx⟩ := at_lt hlt
          have gd := GD.out k _ hx
          simp only at gd
          obtain ⟨nm, hnm⟩ : ∃ nm, str id = nm := ⟨_, rfl⟩
          have H3 := H2.out.below HB.out
          obtain ⟨b, o, rfl, hb, r0, r1, r2, r3⟩ := four_at H3 hx hnm
          have gk : (k : Int) < (l.length : Int) := by omega
          obtain ⟨w7, hw7⟩ : ∃ W, wr.alloc (.cells #[.string nm, .int .i64 z, .bool f, .int .i64 ch] 43 (0, 0)) = W := ⟨_, rfl⟩
          obtain ⟨b7, p0, p1, p2, p3, -⟩ := box_st hw7
          have B7 : Hid (Below w2.heap.size w2 w7) := HB.out.trans (b7.mono HB.out.size)
          have F := Lib.hid (kfind_any _ l (by omega) id nm hnm w7 (H3.below b7))
          rw [gd, show max (k : Int) 0 = (k : Int) by omega, decide_eq_true (show (0 : Int) ≤ (k : Int) by omega)] at F
          have t1 := neq_false (a := (k : Int)) rfl
          clear hx HB b7 hnm hb gd H3
          go_wp2_with fail
          refine F.out.mono ?_
          rintro e w8 ⟨rfl, b8⟩
          have B8 : Hid (Below w2.heap.size w2 w8) := B7.out.trans (b8.mono B7.out.size)
          clear b8 B7 F p0 p1 p2 p3
          go_wp2_with fail
          go_roundw
          case rel => exact ⟨k + 1, by go_num, by omega, B8⟩
          case measure => simp [intOf]; omega
        · have d : decide (k < l.length) = false := by rw [decide_eq_false_iff_not]; exact hlt
          have B3 : Hid (Below w.heap.size w wr) := B2.out.trans (HB.out.mono B2.out.size)
          clear hlt GD HB B2
          go_wp2_with fail
          refine (ex_any wr).mono ?_
          rintro e w5 ⟨rfl, b5⟩
          have B5 := Lib.hid (B3.out.trans (b5.mono B3.out.size))
          clear b5 B3
          go_wp2_with fail
          go_ret
          exact ⟨rfl, B5.out⟩
    · have nz := bne_true (a := (chkT l).2) (b := 0) hz
      have K := Lib.hid (fun W (hW : LstS W (.slice A l.length c) l) => kcheck_any _ l hl HS.out W hW)
      generalize (chkT l).1 = p at K
      generalize (chkT l).2 = q at K nz
      clear hz HS
      go_enter Try.func7, Try.ntmps7
      go_wp2_with fail
      refine SM.out.mono ?_
      rintro e w1 ⟨rfl, b1⟩
      have B1 := Lib.hid b1
      have H1 := Lib.hid (H.out.below b1)
      clear b1 SM H
      go_wp2_with fail
      refine (K.out w1 H1.out).mono ?_
      rintro e w2 ⟨rfl, b2⟩
      have B2 := Lib.hid (B1.out.trans (b2.mono B1.out.size))
      clear b2 B1 H1 K
      go_wp2_with fail
      refine (ex_any w2).mono ?_
      rintro e w5 ⟨rfl, b5⟩
      have B5 := Lib.hid (B2.out.trans (b5.mono B2.out.size))
      clear b5 B2
      go_wp2_with fail
      go_ret
      exact ⟨rfl, B5.out⟩
set_option maxRecDepth 100000 in
set_option maxHeartbeats 4000000 in
theorem first_law (v : Value) (l : List St) (hl : l.length ≤ 9223372036854775807) (_ : OkS l) (w : World) (h : LstS w v l) : Calls Try.prog 8 #[v] w fun e w' => e = .returned (.bool true) ∧ Below w.heap.size w w' := by
  have SM := Lib.hid (small_any v l hl w h)
  have H := Lib.hid h
  cases hb : smallB l with
  | false =>
    rw [hb] at SM
    clear hb hl
    go_enter Try.func8, Try.ntmps8
    go_wp2_with fail
    refine SM.out.mono ?_
    rintro e w1 ⟨rfl, b1⟩
    have B1 := Lib.hid b1
    clear b1 SM
    go_wp2_with fail
    refine (ex_any w1).mono ?_
    rintro e w2 ⟨rfl, b2⟩
    have B2 := Lib.hid (B1.out.trans (b2.mono B1.out.size))
    clear b2 B1
    go_wp2_with fail
    go_ret
    exact ⟨rfl, B2.out⟩
  | true =>
    rw [hb] at SM
    have HS := Lib.hid (small_id hb)
    clear hb
    by_cases h64 : 64 < l.length
    · have g : (64 : Int) < (l.length : Int) := by omega
      obtain ⟨A, c, rfl, -, -, -⟩ := h
      clear h64 HS
      go_enter Try.func8, Try.ntmps8
      go_wp2_with fail
      refine SM.out.mono ?_
      rintro e w1 ⟨rfl, b1⟩
      have B1 := Lib.hid b1
      clear b1 SM
      go_wp2_with fail
      refine (ex_any w1).mono ?_
      rintro e w2 ⟨rfl, b2⟩
      have B2 := Lib.hid (B1.out.trans (b2.mono B1.out.size))
      clear b2 B1
      go_wp2_with fail
      go_ret
      exact ⟨rfl, B2.out⟩
    have g : decide ((64 : Int) < (l.length : Int)) = false := by rw [decide_eq_false_iff_not]; omega
    by_cases hz : (chkT l).2 = 0
    · have e0 := (chkT_zero hz).2
      obtain ⟨A, c, rfl, -, -, -⟩ := h
      have K := Lib.hid (fun W (hW : LstS W (.slice A l.length c) l) => kcheck_any _ l hl HS.out W hW)
      rw [e0] at K
      clear hz HS e0
      go_enter Try.func8, Try.ntmps8
      go_wp2_with fail
      refine SM.out.mono ?_
      rintro e w1 ⟨rfl, b1⟩
      have B1 := Lib.hid b1
      have H1 := Lib.hid (H.out.below b1)
      clear b1 SM H
      go_wp2_with fail
      refine (K.out w1 H1.out).mono ?_
      rintro e w2 ⟨rfl, b2⟩
      have B2 := Lib.hid (B1.out.trans (b2.mono B1.out.size))
      clear b2 B1 H1 K
      go_wp2_with fail
      refine (ex_any w2).mono ?_
      rintro e w5 ⟨rfl, b5⟩
      have B5 := Lib.hid (B2.out.trans (b5.mono B2.out.size))
      clear b5 B2
      go_wp2_with fail
      go_ret
      exact ⟨rfl, B5.out⟩
    · obtain ⟨j, hj, e1, e2, e3⟩ := chkT_first (by omega) hz
      obtain ⟨x1, run1, lst1⟩ := stops_to h j (by omega) hl (j : Int) rfl
      obtain ⟨x2, run2, lst2⟩ := stops_to h (j + 1) (by omega) hl ((j : Int) + 1) (by omega)
      have X1 := Lib.hid lst1
      have X2 := Lib.hid lst2
      obtain ⟨A, c, rfl, -, -, -⟩ := h
      have K := Lib.hid (fun W (hW : LstS W (.slice A l.length c) l) => kcheck_any _ l hl HS.out W hW)
      have K1 := Lib.hid (fun W (hW : LstS W x1 (l.take j)) => kcheck_any _ (l.take j) (by rw [List.length_take]; omega) (fun i x hx => HS.out i x (by rw [List.getElem?_take] at hx; split at hx; exact hx; cases hx)) W hW)
      have K2 := Lib.hid (fun W (hW : LstS W x2 (l.take (j + 1))) => kcheck_any _ (l.take (j + 1)) (by rw [List.length_take]; omega) (fun i x hx => HS.out i x (by rw [List.getElem?_take] at hx; split at hx; exact hx; cases hx)) W hW)
      rw [e1] at K
      rw [e2] at K1
      rw [e3, e1] at K2
      have nz := beq_false (a := (chkT l).2) (b := 0) hz
      have q2 := beq_true (a := (chkT l).2) rfl
      have q1 := beq_true (a := (j : Int)) rfl
      generalize (chkT l).2 = q at K K2 nz q2
      have d0 : decide ((j : Int) < 0) = false := by rw [decide_eq_false_iff_not]; omega
      have d1 : decide ((l.length : Int) ≤ (j : Int)) = false := by rw [decide_eq_false_iff_not]; omega
      have d1' : decide (l.length ≤ j) = false := by rw [decide_eq_false_iff_not]; omega
      have hj2 : (j : Int) < 64 := by omega
      clear hz HS e1 e2 e3 lst1 lst2
      go_enter Try.func8, Try.ntmps8
      go_wp2_with fail
      refine SM.out.mono ?_
      rintro e w1 ⟨rfl, b1⟩
      have B1 := Lib.hid b1
      have H1 := Lib.hid (H.out.below b1)
      have Y1 := Lib.hid (X1.out.below b1)
      have Z1 := Lib.hid (X2.out.below b1)
      clear b1 SM H X1 X2
      go_wp2_with fail
      refine (K.out w1 H1.out).mono ?_
      rintro e w2 ⟨rfl, b2⟩
      have B2 := Lib.hid (B1.out.trans (b2.mono B1.out.size))
      have Y2 := Lib.hid (Y1.out.below b2)
      have Z2 := Lib.hid (Z1.out.below b2)
      clear b2 B1 H1 K Y1 Z1
      go_wp2_with fail
      refine (K1.out w2 Y2.out).mono ?_
      rintro e w3 ⟨rfl, b3⟩
      have B3 := Lib.hid (B2.out.trans (b3.mono B2.out.size))
      have Z3 := Lib.hid (Z2.out.below b3)
      clear b3 B2 Y2 Z2 K1
      go_wp2_with fail
      refine (K2.out w3 Z3.out).mono ?_
      rintro e w4 ⟨rfl, b4⟩
      have B4 := Lib.hid (B3.out.trans (b4.mono B3.out.size))
      clear b4 B3 Z3 K2
      go_wp2_with fail
      refine (ex_any w4).mono ?_
      rintro e w5 ⟨rfl, b5⟩
      have B5 := Lib.hid (B4.out.trans (b5.mono B4.out.size))
      clear b5 B4
      go_wp2_with fail
      go_ret
      exact ⟨rfl, B5.out⟩
end Go.Proofs.Ytgjohpbhdgmifaa
