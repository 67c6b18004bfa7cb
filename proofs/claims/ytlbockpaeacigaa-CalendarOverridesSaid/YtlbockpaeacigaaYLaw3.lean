/-
  The law CalendarOverrides: it answers true for every input; nothing that existed before the call has changed behind it. Condition: none beyond lengths of 63 bits.
-/
import Derived.Test.YtlbockpaeacigaaYLaw
namespace Go.Proofs.Ytlbockpaeacigaa
open Go.RowKit

set_option maxRecDepth 100000 in
set_option maxHeartbeats 8000000 in
theorem overrides_law (lv : Value) (l : List Cl) (_ : l.length ≤ 9223372036854775807) (_ : OkC l) (xv : Value) (x : List Ex) (_ : x.length ≤ 9223372036854775807) (_ : OkX x) (k d : Int) (f : Bool) (k2 d2 : Int) (f2 : Bool) (w : World) (h1 : LstC w lv l) (h2 : LstX w xv x) : Calls Try.prog 10 #[.agg #[lv, xv], .agg #[.int .i64 k, .int .i64 d, .bool f], .agg #[.int .i64 k2, .int .i64 d2, .bool f2]] w fun e w' => e = .returned (.bool true) ∧ Below w.heap.size w w' := by
  have E := Lib.hid (fun W => ex_any W)
  obtain ⟨w1, hw1⟩ : ∃ W, w.alloc (.cells #[lv, xv] 35 (0, 0)) = W := ⟨_, rfl⟩
  obtain ⟨b1, p0, p1, z1⟩ := box_sv hw1
  obtain ⟨w2, hw2⟩ : ∃ W, w1.alloc (.cells #[.int .i64 k, .int .i64 d, .bool f] 53 (0, 0)) = W := ⟨_, rfl⟩
  obtain ⟨b2, q0, q1, q2, z2⟩ := box_ex hw2
  obtain ⟨w3, hw3⟩ : ∃ W, w2.alloc (.cells #[.int .i64 k2, .int .i64 d2, .bool f2] 53 (0, 0)) = W := ⟨_, rfl⟩
  obtain ⟨b3, r0, r1, r2, z3⟩ := box_ex hw3
  have b13 := b2.trans (b3.mono b2.size)
  have B3 := Lib.hid (b1.trans (b13.mono b1.size))
  have PS := Lib.hid (fun W (hW : Below w3.heap.size w3 W) => And.intro ((hW.cell (p := ⟨w.heap.size, 0, none⟩) (by show w.heap.size < _; omega)).trans ((b13.cell (p := ⟨w.heap.size, 0, none⟩) z1).trans p0)) ((hW.cell (p := ⟨w.heap.size, 1, none⟩) (by show w.heap.size < _; omega)).trans ((b13.cell (p := ⟨w.heap.size, 1, none⟩) z1).trans p1)))
  have PX := Lib.hid (fun W (hW : Below w3.heap.size w3 W) => And.intro ((hW.cell (p := ⟨w1.heap.size, 0, none⟩) (by show w1.heap.size < _; omega)).trans ((b3.cell (p := ⟨w1.heap.size, 0, none⟩) z2).trans q0)) (And.intro ((hW.cell (p := ⟨w1.heap.size, 1, none⟩) (by show w1.heap.size < _; omega)).trans ((b3.cell (p := ⟨w1.heap.size, 1, none⟩) z2).trans q1)) ((hW.cell (p := ⟨w1.heap.size, 2, none⟩) (by show w1.heap.size < _; omega)).trans ((b3.cell (p := ⟨w1.heap.size, 2, none⟩) z2).trans q2))))
  have PA := Lib.hid (fun W (hW : Below w3.heap.size w3 W) => And.intro ((hW.cell (p := ⟨w2.heap.size, 0, none⟩) z3).trans r0) ((hW.cell (p := ⟨w2.heap.size, 1, none⟩) z3).trans r1))
  have H1 := Lib.hid (h1.below B3.out)
  have H2 := Lib.hid (h2.below B3.out)
  have SM := Lib.hid (small_any lv xv l x w3 H1.out H2.out)
  clear h1 h2 b1 b2 b3 b13 p0 p1 q0 q1 q2 r0 r1 r2
  obtain ⟨p0, p1⟩ := PS.out w3 (Below.refl _ _)
  cases hb : smlB l x with
  | false =>
    rw [hb] at SM
    clear hb H1 H2 PS PX PA
    go_enter Try.func10, Try.ntmps10
    go_wp2_with fail
    refine SM.out.mono ?_
    rintro e w4 ⟨rfl, b4⟩
    have X4 := Lib.hid b4
    clear b4 SM p0 p1
    go_wp2_with fail
    refine (E.out _).mono ?_
    rintro e w9 ⟨rfl, b⟩
    have X9 := Lib.hid (X4.out.trans (b.mono X4.out.size))
    clear b E
    go_wp2_with fail
    go_ret
    exact ⟨rfl, B3.out.trans (X9.out.mono B3.out.size)⟩
  | true =>
    rw [hb] at SM
    obtain ⟨-, hx20⟩ := smlB_of hb
    have K1 := Lib.hid (fun W (hW : Below w3.heap.size w3 W) => reason_any lv xv l x (by omega) k2 d2 W (H1.out.below hW) (H2.out.below hW))
    have K2 := Lib.hid (fun (u : Value) (W6 : World) (hu : LstX W6 u (x ++ [(k, d, f)])) W (hb : Below W6.heap.size W6 W) (hW : Below w3.heap.size w3 W) => reason_any lv u l (x ++ [(k, d, f)]) (by rw [List.length_append]; show _ + 1 ≤ _; omega) k2 d2 W (H1.out.below hW) (hu.below hb))
    have OT := Lib.hid (fun h => more_other (l := l) (x := x) (e := (k, d, f)) (i := k2) (d := d2) h)
    have KP := Lib.hid (fun h => more_kept (l := l) (x := x) (e := (k, d, f)) (i := k2) (d := d2) h)
    have NW : Hid (k2 = k → d2 = d → ¬ (rsnT l x k2 d2 = 0 ∨ rsnT l x k2 d2 = 2 ∨ rsnT l x k2 d2 = 3) → rsnT l (x ++ [(k, d, f)]) k2 d2 = if f = true then 2 else 3) := by
      rintro rfl rfl h
      exact more_new (e := (k2, d2, f)) h
    generalize rsnT l x k2 d2 = s1 at K1 OT KP NW
    generalize rsnT l (x ++ [(k, d, f)]) k2 d2 = s2 at K2 OT KP NW
    simp only at OT
    clear hb
    go_enter Try.func10, Try.ntmps10
    go_wp2_with fail
    refine SM.out.mono ?_
    rintro e w4 ⟨rfl, b4⟩
    have X4 := Lib.hid b4
    have hz4 := b4.size
    obtain ⟨c0, c1⟩ := PS.out w4 X4.out
    clear b4 SM p0 p1
    go_wp2_with (first | (at_builtin; refine appG_list xe_len xe_one (by decide) Try.underlying30 info_ex rfl (by decide) _ rfl (.tmp 14) (.tmp 16) rfl w4.heap.size _ [] x rfl (OwnG.nil _ _ _ _ _) xv rfl (H2.out.below X4.out) (Nat.le_refl _) (by simp; omega) ?_; intro v5 w5 own5 b5 _ _; have X5 := Lib.hid (X4.out.trans (b5.mono hz4)); have O5 := Lib.hid own5; have hz5 := b5.size; have y0 := (PX.out w5 X5.out).1; have y1 := (PX.out w5 X5.out).2.1; have y2 := (PX.out w5 X5.out).2.2; clear own5 b5 c0 c1) | (at_builtin; refine appG_one xe_len xe_one (by decide) Try.underlying30 info_ex rfl (by decide) _ rfl (.tmp 18) (.tmp 20) rfl w4.heap.size _ ([] ++ x) (k, d, f) rfl (World.ownsRow.alloc O5.out _) w5.heap.size _ (heap_alloc_new _ _) rfl rfl (by simp; omega) (by simp; omega) ?_; intro v6 w6 own6 b6 _ _; have X6 := Lib.hid ((X5.out.alloc (Nat.le_trans hz4 hz5) (.cells #[.int .i64 k, .int .i64 d, .bool f] 53 (0, 0))).trans (b6.mono hz4)); have O6 := Lib.hid own6; have c0 := (PS.out w6 X6.out).1; have c1 := (PS.out w6 X6.out).2; have a0 := (PA.out w6 X6.out).1; have a1 := (PA.out w6 X6.out).2; clear own6 b6 y0 y1 y2))
    refine (K1.out w6 X6.out).mono ?_
    rintro e w7 ⟨rfl, b⟩
    have X7 := Lib.hid (X6.out.trans (b.mono X6.out.size))
    have C2 := Lib.hid (K2.out v6 w6 (OwnG.lst O6.out) w7 b X7.out)
    obtain ⟨e0, e1⟩ := PS.out w7 X7.out
    obtain ⟨i0, i1⟩ := PA.out w7 X7.out
    clear b K1 K2 O5 O6 c0 c1 a0 a1 X5 X6
    go_wp2_with fail
    refine C2.out.mono ?_
    rintro e w8 ⟨rfl, b⟩
    have X8 := Lib.hid (X7.out.trans (b.mono X7.out.size))
    obtain ⟨m0, m1, m2⟩ := PX.out w8 X8.out
    obtain ⟨n0, n1⟩ := PA.out w8 X8.out
    clear b X7 C2 e0 e1 i0 i1 PS PX PA H1 H2 hz4 hz5 X4
    by_cases g1 : k2 = k
    case neg =>
      have q1 := bne_true g1
      have R := OT.out (.inl (fun e => g1 e.symm))
      subst R
      have q2 := beq_true (a := s2) rfl
      clear OT KP NW
      go_wp2_with fail
      refine (E.out _).mono ?_
      rintro e w9 ⟨rfl, b⟩
      have X9 := Lib.hid (X8.out.trans (b.mono X8.out.size))
      clear b E
      go_wp2_with fail
      go_ret
      exact ⟨rfl, B3.out.trans (X9.out.mono B3.out.size)⟩
    have q1 := neq_false g1
    by_cases g2 : d2 = d
    case neg =>
      have q2 := bne_true g2
      have R := OT.out (.inr (fun e => g2 e.symm))
      subst R
      have q3 := beq_true (a := s2) rfl
      clear OT KP NW
      go_wp2_with fail
      refine (E.out _).mono ?_
      rintro e w9 ⟨rfl, b⟩
      have X9 := Lib.hid (X8.out.trans (b.mono X8.out.size))
      clear b E
      go_wp2_with fail
      go_ret
      exact ⟨rfl, B3.out.trans (X9.out.mono B3.out.size)⟩
    have q2 := neq_false g2
    by_cases g3 : s1 = 0
    · have R := KP.out (.inl g3)
      subst R
      subst g3
      clear OT KP NW
      go_wp2_with fail
      refine (E.out _).mono ?_
      rintro e w9 ⟨rfl, b⟩
      have X9 := Lib.hid (X8.out.trans (b.mono X8.out.size))
      clear b E
      go_wp2_with fail
      go_ret
      exact ⟨rfl, B3.out.trans (X9.out.mono B3.out.size)⟩
    by_cases g4 : s1 = 2
    · have R := KP.out (.inr (.inl g4))
      subst R
      subst g4
      clear OT KP NW
      go_wp2_with fail
      refine (E.out _).mono ?_
      rintro e w9 ⟨rfl, b⟩
      have X9 := Lib.hid (X8.out.trans (b.mono X8.out.size))
      clear b E
      go_wp2_with fail
      go_ret
      exact ⟨rfl, B3.out.trans (X9.out.mono B3.out.size)⟩
    by_cases g5 : s1 = 3
    · have R := KP.out (.inr (.inr g5))
      subst R
      subst g5
      clear OT KP NW
      go_wp2_with fail
      refine (E.out _).mono ?_
      rintro e w9 ⟨rfl, b⟩
      have X9 := Lib.hid (X8.out.trans (b.mono X8.out.size))
      clear b E
      go_wp2_with fail
      go_ret
      exact ⟨rfl, B3.out.trans (X9.out.mono B3.out.size)⟩
    have R := NW.out g1 g2 (by omega)
    have q3 := beq_false g3
    have q4 := beq_false g4
    have q5 := beq_false g5
    clear OT KP NW g1 g2 g3 g4 g5
    cases f with
    | true =>
      simp at R
      subst R
      go_wp2_with fail
      refine (E.out _).mono ?_
      rintro e w9 ⟨rfl, b⟩
      have X9 := Lib.hid (X8.out.trans (b.mono X8.out.size))
      clear b E
      go_wp2_with fail
      go_ret
      exact ⟨rfl, B3.out.trans (X9.out.mono B3.out.size)⟩
    | false =>
      simp at R
      subst R
      go_wp2_with fail
      refine (E.out _).mono ?_
      rintro e w9 ⟨rfl, b⟩
      have X9 := Lib.hid (X8.out.trans (b.mono X8.out.size))
      clear b E
      go_wp2_with fail
      go_ret
      exact ⟨rfl, B3.out.trans (X9.out.mono B3.out.size)⟩
end Go.Proofs.Ytlbockpaeacigaa
