/-
  The code's contains, Reason and Active: what each call answers; nothing that existed before the call has changed behind it. Condition: none beyond lengths of 63 bits.
-/
import Derived.Test.YtlbockpaeacigaaYFnd
namespace Go.Proofs.Ytlbockpaeacigaa
open Go.RowKit

/-- The address of one day of a week. -/
theorem wix_run (B o k : Nat) (hk : k < 7) (W : World) : (Instr.indexAt 48 (.pointer (some ⟨B, o, none⟩)) (.int .i64 (k : Int))).run Try.prog W = .ok (.pointer (some ⟨B, o + k, none⟩)) W := by
  have hT := Try.underlying48
  have he : Try.prog.elem 48 = 4 := by simp [Program.elem, hT]
  have hl : Try.prog.arrayLen 48 = 7 := by simp [Program.arrayLen, hT]
  rw [run_indexAt_array W 48 _ _ _ (by rw [he, hl]; exact hT), hl, he, if_pos (by omega)]
  simp [Try.sizeOf4, Addr.add]
  try exact fun h => h.symm
theorem week_num (d : Int) : ∃ m : Nat, (d + 5) % 7 = (m : Int) ∧ m < 7 := ⟨((d + 5) % 7).toNat, by omega, by omega⟩
set_option maxRecDepth 100000 in
set_option maxHeartbeats 4000000 in
theorem contains_any (k : Nat → Bool) (d : Int) (hd : dayP d) (w : World) : Calls Try.prog 37 #[.agg #[.bool (k 0), .bool (k 1), .bool (k 2), .bool (k 3), .bool (k 4), .bool (k 5), .bool (k 6)], .int .i64 d] w fun e w' => e = .returned (.bool (k ((d + 5) % 7).toNat)) ∧ Below w.heap.size w w' := by
  obtain ⟨m, hm, hm7⟩ := week_num d
  have WD := Lib.hid (fun W => weekday_any d hd W)
  rw [hm] at WD ⊢
  rw [Int.toNat_natCast]
  have ix := fun W => wix_run w.heap.size 0 m hm7 W
  rw [Nat.zero_add] at ix
  obtain ⟨w7, hw7⟩ : ∃ W, w.alloc (.cells #[.bool (k 0), .bool (k 1), .bool (k 2), .bool (k 3), .bool (k 4), .bool (k 5), .bool (k 6)] 48 (0, 0)) = W := ⟨_, rfl⟩
  have c7 := heap_alloc_new w (.cells #[.bool (k 0), .bool (k 1), .bool (k 2), .bool (k 3), .bool (k 4), .bool (k 5), .bool (k 6)] 48 (0, 0))
  have B7 : Hid (Below w.heap.size w w7) := by
    rw [← hw7]
    exact (Below.refl _ _).alloc (Nat.le_refl _) _
  have t : w7.cell? ⟨w.heap.size, m, none⟩ = some (.bool (k m)) := by
    rw [← hw7, cell_of_row _ _ m _ _ _ c7]
    match m, hm7 with
    | 0, _ => rfl
    | 1, _ => rfl
    | 2, _ => rfl
    | 3, _ => rfl
    | 4, _ => rfl
    | 5, _ => rfl
    | 6, _ => rfl
  generalize k m = q at t ⊢
  clear c7 hm hd
  go_enter Try.func37, Try.ntmps37
  go_wp2_with fail
  refine (WD.out _).mono ?_
  rintro e w' ⟨rfl, rfl⟩
  go_wp2_with fail
  go_ret
  exact ⟨rfl, B7.out⟩
set_option maxRecDepth 100000 in
set_option maxHeartbeats 4000000 in
theorem reason_any (lv xv : Value) (l : List Cl) (x : List Ex) (hx : x.length ≤ 9223372036854775807) (i d : Int) (w : World) (h1 : LstC w lv l) (h2 : LstX w xv x) : Calls Try.prog 18 #[lv, xv, .int .i64 i, .int .i64 d] w fun e w' => e = .returned (.int .i64 (rsnT l x i d)) ∧ Below w.heap.size w w' := by
  have HC := Lib.hid h1
  have HX := Lib.hid h2
  obtain ⟨A, c, rfl, -, -, -⟩ := h1
  clear h2
  by_cases g1 : i < 0
  · have R := Lib.hid (rsn_no (l := l) (x := x) (d := d) (.inl g1))
    generalize rsnT l x i d = q at R ⊢
    go_enter Try.func18, Try.ntmps18
    go_wp2_with fail
    go_ret
    exact ⟨ret_int R.out.symm, Below.refl _ _⟩
  obtain ⟨n, rfl⟩ : ∃ n : Nat, i = n := ⟨i.toNat, by omega⟩
  clear g1
  by_cases g2 : l.length ≤ n
  · have R := Lib.hid (rsn_no (l := l) (x := x) (i := (n : Int)) (d := d) (.inr (.inl (by omega))))
    generalize rsnT l x n d = q at R ⊢
    have gk : (l.length : Int) ≤ (n : Int) := by omega
    go_enter Try.func18, Try.ntmps18
    go_wp2_with fail
    go_ret
    exact ⟨ret_int R.out.symm, Below.refl _ _⟩
  have d2 : decide (l.length ≤ n) = false := decide_eq_false g2
  have gk : (n : Int) < (l.length : Int) := by omega
  have V := Lib.hid (fun W => dvalid_any d W)
  by_cases hd : dayP d
  case neg =>
    have R := Lib.hid (rsn_no (l := l) (x := x) (i := (n : Int)) (d := d) (.inr (.inr hd)))
    generalize rsnT l x n d = q at R ⊢
    rw [decide_eq_false hd] at V
    clear hd g2
    go_enter Try.func18, Try.ntmps18
    go_wp2_with fail
    refine (V.out _).mono ?_
    rintro e w' ⟨rfl, rfl⟩
    go_wp2_with fail
    go_ret
    exact ⟨ret_int R.out.symm, Below.refl _ _⟩
  case pos =>
    rw [decide_eq_true hd] at V
    obtain ⟨⟨id, k, f, t⟩, hc⟩ := at_lt (show n < l.length by omega)
    have RS := Lib.hid (rsn_at (x := x) hc hd)
    have F := Lib.hid (find_any xv x n d hx w HX.out)
    cases ha : addF n d x with
    | some b =>
      rw [ha] at F RS
      unfold fndX at F
      simp only at F
      cases b with
      | true =>
        rw [why_add] at RS
        generalize rsnT l x n d = q at RS ⊢
        clear ha hc hd g2
        go_enter Try.func18, Try.ntmps18
        go_wp2_with fail
        refine (V.out _).mono ?_
        rintro e w' ⟨rfl, rfl⟩
        go_wp2_with fail
        refine F.out.mono ?_
        rintro e w1 ⟨rfl, b1⟩
        have B1 := Lib.hid b1
        have hz := b1.size
        clear b1 F
        go_wp2_with fail
        go_ret
        exact ⟨ret_int RS.out.symm, B1.out.alloc hz _⟩
      | false =>
        rw [why_rem] at RS
        generalize rsnT l x n d = q at RS ⊢
        clear ha hc hd g2
        go_enter Try.func18, Try.ntmps18
        go_wp2_with fail
        refine (V.out _).mono ?_
        rintro e w' ⟨rfl, rfl⟩
        go_wp2_with fail
        refine F.out.mono ?_
        rintro e w1 ⟨rfl, b1⟩
        have B1 := Lib.hid b1
        have hz := b1.size
        clear b1 F
        go_wp2_with fail
        go_ret
        exact ⟨ret_int RS.out.symm, B1.out.alloc hz _⟩
    | none =>
      rw [ha] at F RS
      unfold fndX at F
      simp only at F
      have hcc := Lib.hid hc
      have C := Lib.hid (fun W => contains_any k d hd W)
      have wo := Lib.hid (fun h => why_out (c := (id, k, f, t)) (d := d) h)
      have wp := Lib.hid (fun h h' => why_pat (c := (id, k, f, t)) (d := d) h h')
      have wn := Lib.hid (fun h h' => why_off (c := (id, k, f, t)) (d := d) h h')
      simp only at wo wp wn
      clear hd ha hc g2
      by_cases o1 : d < f
      · have R := Lib.hid (RS.out.trans (wo.out (.inl o1)))
        generalize rsnT l x n d = q at R ⊢
        clear wo wp wn RS
        go_enter Try.func18, Try.ntmps18
        go_wp2_with fail
        refine (V.out _).mono ?_
        rintro e w' ⟨rfl, rfl⟩
        go_wp2_with fail
        refine F.out.mono ?_
        rintro e w1 ⟨rfl, b1⟩
        have B1 := Lib.hid b1
        have hz := b1.size
        have B7 : Hid (Below w.heap.size w (w1.alloc (.cells #[.int .i64 0, .int .i64 0, .bool false] 53 (0, 0)))) := B1.out.alloc hz _
        obtain ⟨b, o, rfl, hbl, m0, -, m8, m9⟩ := ten_at (HC.out.below B7.out) hcc.out rfl
        clear b1 F m0 m9
        go_wp2_with fail
        go_ret
        exact ⟨ret_int R.out.symm, B7.out⟩
      have d3 : decide (d < f) = false := decide_eq_false o1
      by_cases o2 : t < d
      · have R := Lib.hid (RS.out.trans (wo.out (.inr o2)))
        generalize rsnT l x n d = q at R ⊢
        clear wo wp wn RS o1
        go_enter Try.func18, Try.ntmps18
        go_wp2_with fail
        refine (V.out _).mono ?_
        rintro e w' ⟨rfl, rfl⟩
        go_wp2_with fail
        refine F.out.mono ?_
        rintro e w1 ⟨rfl, b1⟩
        have B1 := Lib.hid b1
        have hz := b1.size
        have B7 : Hid (Below w.heap.size w (w1.alloc (.cells #[.int .i64 0, .int .i64 0, .bool false] 53 (0, 0)))) := B1.out.alloc hz _
        obtain ⟨b, o, rfl, hbl, m0, -, m8, m9⟩ := ten_at (HC.out.below B7.out) hcc.out rfl
        clear b1 F m0
        go_wp2_with fail
        go_ret
        exact ⟨ret_int R.out.symm, B7.out⟩
      have d4 : decide (t < d) = false := decide_eq_false o2
      have wp := Lib.hid (RS.out.symm ▸ wp.out (by omega) : k ((d + 5) % 7).toNat = true → rsnT l x n d = 1)
      have wn := Lib.hid (RS.out.symm ▸ wn.out (by omega) : k ((d + 5) % 7).toNat = false → rsnT l x n d = 4)
      generalize rsnT l x n d = q at wp wn ⊢
      generalize k ((d + 5) % 7).toNat = y at C wp wn
      clear wo RS o1 o2
      cases y with
      | true =>
        have R := Lib.hid (wp.out rfl)
        go_enter Try.func18, Try.ntmps18
        go_wp2_with fail
        refine (V.out _).mono ?_
        rintro e w' ⟨rfl, rfl⟩
        go_wp2_with fail
        refine F.out.mono ?_
        rintro e w1 ⟨rfl, b1⟩
        have B1 := Lib.hid b1
        have hz := b1.size
        have B7 : Hid (Below w.heap.size w (w1.alloc (.cells #[.int .i64 0, .int .i64 0, .bool false] 53 (0, 0)))) := B1.out.alloc hz _
        obtain ⟨b, o, rfl, hbl, m0, mk, m8, m9⟩ := ten_at (HC.out.below B7.out) hcc.out rfl
        have k0 := mk 0 (by omega)
        have k1 := mk 1 (by omega)
        have k2 := mk 2 (by omega)
        have k3 := mk 3 (by omega)
        have k4 := mk 4 (by omega)
        have k5 := mk 5 (by omega)
        have k6 := mk 6 (by omega)
        simp only [Nat.add_zero] at k0
        clear b1 F m0 mk
        go_wp2_with fail
        refine (C.out _).mono ?_
        rintro e w2 ⟨rfl, b2⟩
        have B2 := Lib.hid (B7.out.trans (b2.mono B7.out.size))
        clear b2
        go_wp2_with fail
        go_ret
        exact ⟨ret_int R.out.symm, B2.out⟩
      | false =>
        have R := Lib.hid (wn.out rfl)
        go_enter Try.func18, Try.ntmps18
        go_wp2_with fail
        refine (V.out _).mono ?_
        rintro e w' ⟨rfl, rfl⟩
        go_wp2_with fail
        refine F.out.mono ?_
        rintro e w1 ⟨rfl, b1⟩
        have B1 := Lib.hid b1
        have hz := b1.size
        have B7 : Hid (Below w.heap.size w (w1.alloc (.cells #[.int .i64 0, .int .i64 0, .bool false] 53 (0, 0)))) := B1.out.alloc hz _
        obtain ⟨b, o, rfl, hbl, m0, mk, m8, m9⟩ := ten_at (HC.out.below B7.out) hcc.out rfl
        have k0 := mk 0 (by omega)
        have k1 := mk 1 (by omega)
        have k2 := mk 2 (by omega)
        have k3 := mk 3 (by omega)
        have k4 := mk 4 (by omega)
        have k5 := mk 5 (by omega)
        have k6 := mk 6 (by omega)
        simp only [Nat.add_zero] at k0
        clear b1 F m0 mk
        go_wp2_with fail
        refine (C.out _).mono ?_
        rintro e w2 ⟨rfl, b2⟩
        have B2 := Lib.hid (B7.out.trans (b2.mono B7.out.size))
        clear b2
        go_wp2_with fail
        go_ret
        exact ⟨ret_int R.out.symm, B2.out⟩
set_option maxRecDepth 100000 in
theorem active_any (lv xv : Value) (l : List Cl) (x : List Ex) (hx : x.length ≤ 9223372036854775807) (i d : Int) (w : World) (h1 : LstC w lv l) (h2 : LstX w xv x) : Calls Try.prog 20 #[lv, xv, .int .i64 i, .int .i64 d] w fun e w' => e = .returned (.bool (actT l x i d)) ∧ Below w.heap.size w w' := by
  have R := Lib.hid (reason_any lv xv l x hx i d w h1 h2)
  unfold actT
  generalize rsnT l x i d = r at R ⊢
  clear hx h1 h2
  by_cases e1 : r = 1
  · subst e1
    go_enter Try.func20, Try.ntmps20
    go_wp2_with fail
    refine R.out.mono ?_
    rintro e w1 ⟨rfl, b1⟩
    go_wp2_with fail
    go_ret
    exact ⟨ret_bool rfl, b1⟩
  by_cases e2 : r = 2
  · subst e2
    go_enter Try.func20, Try.ntmps20
    go_wp2_with fail
    refine R.out.mono ?_
    rintro e w1 ⟨rfl, b1⟩
    go_wp2_with fail
    go_ret
    exact ⟨ret_bool rfl, b1⟩
  have N := Lib.hid (act_no e1 e2)
  have q1 := beq_false e1
  have q2 := beq_false e2
  generalize decide (r = 1 ∨ r = 2) = y at N ⊢
  clear e1 e2
  go_enter Try.func20, Try.ntmps20
  go_wp2_with fail
  refine R.out.mono ?_
  rintro e w1 ⟨rfl, b1⟩
  go_wp2_with fail
  go_ret
  exact ⟨ret_bool N.out.symm, b1⟩
end Go.Proofs.Ytlbockpaeacigaa
