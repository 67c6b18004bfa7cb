/-
  The law HeapPlays: true for every input, nothing that existed has changed. Condition: the integers are ints.
-/
import Derived.Test.YtnmomkldlajimaaHPlay
namespace Go.Proofs.Ytnmomkldlajimaa
open Go.RowKit

set_option maxRecDepth 100000 in
set_option maxHeartbeats 8000000 in
theorem plays_law (m : Int) (v : Value) (l : List (Int × Pr)) (_ : l.length ≤ 9223372036854775807) (hk : ∀ o ∈ l, Ok2 o.2) (w : World) (h : LstG oc w v l) : Calls Try.prog 3 #[.int .i64 m, v] w fun e w' => e = .returned (.bool true) ∧ Below w.heap.size w w' := by
  have M := Lib.hid (made_any m w)
  have hh := h
  obtain ⟨A, c, rfl, -⟩ := hh
  have H : Hid (LstG oc w (.slice A l.length c) l) := h
  have HK := Lib.hid hk
  clear h hk
  rcases guard3 m l.length 2 with h0 | ⟨h0, h1⟩ | ⟨h0, h1, h2⟩ | ⟨h0, h1, h2, h3, h4, h5⟩
  · clear H HK
    go_enter Try.func3, Try.ntmps3
    go_wp2_with fail
    refine M.out.mono ?_
    rintro e w1 ⟨rfl, -, b1⟩
    go_wp2_with fail
    refine (rel (W := w) (ex_any w1) b1).mono ?_
    rintro e w2 ⟨rfl, b2⟩
    clear b1
    go_wp2_with fail
    go_ret
    exact ⟨rfl, b2⟩
  · clear H HK
    go_enter Try.func3, Try.ntmps3
    go_wp2_with fail
    refine M.out.mono ?_
    rintro e w1 ⟨rfl, -, b1⟩
    go_wp2_with fail
    refine (rel (W := w) (ex_any w1) b1).mono ?_
    rintro e w2 ⟨rfl, b2⟩
    clear b1
    go_wp2_with fail
    go_ret
    exact ⟨rfl, b2⟩
  · clear H HK
    go_enter Try.func3, Try.ntmps3
    go_wp2_with fail
    refine M.out.mono ?_
    rintro e w1 ⟨rfl, -, b1⟩
    go_wp2_with fail
    refine (rel (W := w) (ex_any w1) b1).mono ?_
    rintro e w2 ⟨rfl, b2⟩
    clear b1
    go_wp2_with fail
    go_ret
    exact ⟨rfl, b2⟩
  · have OM := Lib.hid (ord_mode h3 h4)
    have FI := Lib.hid (fun v l hk h1 hl W h => first_any h3 h4 v l hk h1 hl W h)
    have RS := Lib.hid (fun v l hk hl W h => rsort_any h3 h4 v l hk hl W h)
    go_enter Try.func3, Try.ntmps3
    go_wp2_with fail
    refine M.out.mono ?_
    rintro e w1 ⟨rfl, s1, b1⟩
    have P1 : Hid (PlayR m w.heap.size w 0 (.slice none 0 0) [] w1) := PlayR.none (Nat.le_refl _) s1 (OwnP.at_nil _ _) b1
    clear s1 b1 M
    go_wp2_with fail
    go_loopw [6, 34] (fun rv u wr => ∃ (k : Nat) (r : List Pr), u = .int .i64 (k : Int) ∧ k ≤ l.length ∧ Hid (PlayR m w.heap.size w k rv r wr)) (fun _ u _ => l.length - (intOf u).toNat)
    case atStart => exact ⟨0, [], rfl, Nat.zero_le _, P1⟩
    case round =>
      obtain ⟨k, r, rfl, hkl, HP⟩ := hrel
      clear P1
      by_cases hlt : k < l.length
      · obtain ⟨⟨d, x⟩, hx⟩ := at_lt hlt
        have OX := Lib.hid (HK.out _ (List.mem_iff_getElem?.2 ⟨k, hx⟩))
        obtain ⟨b, o, c', hv, hb, x0, x1, x2⟩ := LstG.op H.out hx
        cases hv
        obtain ⟨A2, c2, hu, -⟩ := ownK_shape HP.out.choose_spec.choose_spec.choose_spec.2.2.2.2.2.2.2.2.1
        subst hu
        have hBW := HP.out.choose_spec.choose_spec.choose_spec.2.2.2.2.2.2.2.2.2
        have hrl := HP.out.len
        have hws := hBW.size
        rw [← hBW.cell (p := ⟨b, _, none⟩) hb] at x0 x1 x2
        have hbr : b < wr.heap.size := Nat.lt_of_lt_of_le hb hBW.size
        have gk : (k : Int) < (l.length : Int) := by omega
        simp only at x0 x1 x2
        clear hx hBW
        have ba : Below wr.heap.size wr (wr.alloc (.cells #[.int .i64 d, .int .i64 x.1, .int .i64 x.2] 30 (0, 0))) := (Below.refl _ _).alloc (Nat.le_refl _) _
        have PA := Lib.hid (HP.out.below ba)
        have ra := heap_alloc_new wr (.cells #[.int .i64 d, .int .i64 x.1, .int .i64 x.2] 30 (0, 0))
        rcases Nat.eq_zero_or_pos r.length with hr0 | hr0
        · obtain rfl : r = [] := List.length_eq_zero_iff.1 hr0
          obtain ⟨w2, hw2⟩ : ∃ w2, wr.alloc (.cells #[.int .i64 d, .int .i64 x.1, .int .i64 x.2] 30 (0, 0)) = w2 := ⟨_, rfl⟩
          rw [hw2] at ra PA
          have P2 := PA
          have PP := PA
          have r2 := ra
          have d0 : w2.cell? ⟨wr.heap.size, 0, none⟩ = some (.int .i64 d) := by rw [cell_of_row _ _ 0 _ _ _ r2]; rfl
          have d1 : w2.cell? ⟨wr.heap.size, 1, none⟩ = some (.int .i64 x.1) := by rw [cell_of_row _ _ 1 _ _ _ r2]; rfl
          have d2 : w2.cell? ⟨wr.heap.size, 2, none⟩ = some (.int .i64 x.2) := by rw [cell_of_row _ _ 2 _ _ _ r2]; rfl
          have R2 := Lib.hid r2
          clear r2 ra PA ba HP hr0
          simp only [List.length_nil]
          rcases five d with rfl | ⟨q0, rfl⟩ | ⟨q0, q1, rfl⟩ | ⟨q0, q1, q2, rfl⟩ | ⟨q0, q1, q2, q3⟩
          · obtain ⟨R, l', n, e1, e2, e3, e4, e5, e6, e7, e8, e9, e10⟩ := P2.out
            have E1 := Lib.hid e1
            have E2 := Lib.hid e2
            have E3 := Lib.hid e3
            have E4 := Lib.hid e4
            have E5 := Lib.hid e5
            have E6 := Lib.hid e6
            have E9 := Lib.hid e9
            have E10 := Lib.hid e10
            have hll : l'.length = ([] : List Pr).length := by rw [e4.length_eq, ← List.length_map (f := fun z : Pr × Nat => z.1), e1]
            clear e1 e2 e3 e4 e5 e6 e9 e10 P2
            go_wp2_with fail
            refine (push_any (fun_mode m) w.heap.size n l' x OX.out (by omega) (by omega) w2 E2.out).mono ?_
            rintro e w3 ⟨rfl, s3, f3⟩
            have r3 := f3.other R2.out (fun h => by rcases h with h | h <;> cases h)
            have d1 : w3.cell? ⟨wr.heap.size, 1, none⟩ = some (.int .i64 x.1) := by rw [cell_of_row _ _ 1 _ _ _ r3]; rfl
            have d2 : w3.cell? ⟨wr.heap.size, 2, none⟩ = some (.int .i64 x.2) := by rw [cell_of_row _ _ 2 _ _ _ r3]; rfl
            have S3 := Lib.hid s3
            have O3 := Lib.hid (E9.out.fr f3 not_ht)
            have B3 : Hid (Below w.heap.size w w3) := E10.out.trans (f3.below E10.out.size)
            have hw3 := B3.out.size
            clear s3 f3 r3 E2 E9 E10 R2
            go_wp2_with (at_builtin; refine appG_one pc_len pc_one (by decide) Try.underlying26 info_pr rfl (by decide) _ rfl (.tmp 52) (.tmp 55) rfl w.heap.size _ ([] : List Pr) x rfl (World.ownsRow.alloc O3.out _) w3.heap.size _ (heap_alloc_new _ _) rfl rfl (by simp; omega) (by omega) ?_)
            intro v4 w4 own4 b4 g4 _
            have g4' : World.grownBy _ w4 (Value.slice A2 ([] : List Pr).length c2).ownBlock := g4
            have N0 := PlayR.push OM.out E1.out E3.out E4.out E5.out E6.out e7 e8 (S3.out.below ((Below.refl _ _).alloc (Nat.le_refl _) (.cells #[.int .i64 x.1, .int .i64 x.2] 28 (0, 0)))) (World.ownsRow.alloc O3.out _) own4 g4' ((B3.out.alloc hw3 _).trans b4)
            obtain ⟨A5, c5, hv5, -⟩ := ownK_shape own4
            subst hv5
            have N := Lib.hid N0
            clear N0 own4 b4 g4 g4' S3 O3 B3 E1 E3 E4 E5 E6 d1 d2
            go_wp2_with fail
            refine (N.out.count).mono ?_
            rintro e w' ⟨rfl, rfl⟩
            go_wp2_with fail
            go_roundw
            case rel => exact ⟨k + 1, ([] : List Pr) ++ [x], by go_num, by omega, N⟩
            case measure => simp [intOf]; omega
          · obtain ⟨R, l', n, e1, e2, e3, e4, e5, e6, e7, e8, e9, e10⟩ := P2.out
            have E1 := Lib.hid e1
            have E2 := Lib.hid e2
            have E3 := Lib.hid e3
            have E4 := Lib.hid e4
            have E5 := Lib.hid e5
            have E6 := Lib.hid e6
            have E9 := Lib.hid e9
            have E10 := Lib.hid e10
            have hll : l'.length = ([] : List Pr).length := by rw [e4.length_eq, ← List.length_map (f := fun z : Pr × Nat => z.1), e1]
            clear e1 e2 e3 e4 e5 e6 e9 e10 P2
            obtain rfl : l' = [] := List.length_eq_zero_iff.1 (by omega)
            go_wp2_with fail
            refine (pop_no w.heap.size n w2 E2.out).mono ?_
            rintro e w3 ⟨rfl, b3⟩
            have P3 := Lib.hid (PP.out.below (b3.alloc b3.size (.cells #[.int .i64 0, .int .i64 0] 28 (0, 0))))
            clear b3 E2 E9 E10 R2 d0 d1 d2 PP E1 E3 E4 E5 E6
            go_wp2_with fail
            go_quiet (fail)
            have P4 := Lib.hid (P3.out.below (below_drewN (Below.refl _ _) nq))
            generalize (w3.alloc (.cells #[.int .i64 0, .int .i64 0] 28 (0, 0))).drewN nq = w4 at P4 ⊢
            clear P3
            obtain ⟨R4, l4, n4, f1, f2, f3, f4, f5, f6, f7, f8, f9, f10⟩ := P4.out
            obtain rfl : l4 = [] := List.length_eq_zero_iff.1 (by rw [f4.length_eq, ← List.length_map (f := fun z : Pr × Nat => z.1), f1]; rfl)
            have S4 := Lib.hid f2
            have O4 := Lib.hid (OwnG.lst f9)
            have B4 := Lib.hid f10
            clear f1 f2 f3 f4 f5 f6 f8 f9 f10 P4
            go_wp2_with fail
            refine (without_any _ [] 0 (by simp) w4 O4.out).mono ?_
            rintro e w5 ⟨v5, rfl, o5, b5⟩
            rw [List.eraseIdx_nil] at o5
            obtain ⟨A5, c5, rfl, -⟩ := ownK_shape o5
            have N := Lib.hid (PlayR.none (k := k + 1) (by omega) (S4.out.below b5) (o5.down B4.out.size) (B4.out.trans (b5.mono B4.out.size)))
            clear o5 b5 S4 O4 B4
            go_wp2_with fail
            refine (N.out.count).mono ?_
            rintro e w' ⟨rfl, rfl⟩
            go_wp2_with fail
            go_roundw
            case rel => exact ⟨k + 1, [], by go_num, by omega, N⟩
            case measure => simp [intOf]; omega
          · obtain ⟨R, l', n, e1, e2, e3, e4, e5, e6, e7, e8, e9, e10⟩ := P2.out
            have E1 := Lib.hid e1
            have E2 := Lib.hid e2
            have E3 := Lib.hid e3
            have E4 := Lib.hid e4
            have E5 := Lib.hid e5
            have E6 := Lib.hid e6
            have E9 := Lib.hid e9
            have E10 := Lib.hid e10
            have hll : l'.length = ([] : List Pr).length := by rw [e4.length_eq, ← List.length_map (f := fun z : Pr × Nat => z.1), e1]
            clear e1 e2 e3 e4 e5 e6 e9 e10 P2
            obtain rfl : l' = [] := List.length_eq_zero_iff.1 (by omega)
            go_wp2_with fail
            refine (peek_no w.heap.size n w2 E2.out).mono ?_
            rintro e w3 ⟨rfl, b3⟩
            have P3 := Lib.hid (PP.out.below (b3.alloc b3.size (.cells #[.int .i64 0, .int .i64 0] 28 (0, 0))))
            clear b3 E2 E9 E10 R2 d0 d1 d2 PP E1 E3 E4 E5 E6
            go_wp2_with fail
            go_quiet (fail)
            have N := Lib.hid ((P3.out.below (below_drewN (Below.refl _ _) nq)).more)
            generalize (w3.alloc (.cells #[.int .i64 0, .int .i64 0] 28 (0, 0))).drewN nq = w4 at N ⊢
            clear P3
            go_wp2_with fail
            refine (N.out.count).mono ?_
            rintro e w' ⟨rfl, rfl⟩
            go_wp2_with fail
            go_roundw
            case rel => exact ⟨k + 1, [], by go_num, by omega, N⟩
            case measure => simp [intOf]; omega
          · obtain ⟨R, l', n, e1, e2, e3, e4, e5, e6, e7, e8, e9, e10⟩ := P2.out
            have E1 := Lib.hid e1
            have E2 := Lib.hid e2
            have E3 := Lib.hid e3
            have E4 := Lib.hid e4
            have E5 := Lib.hid e5
            have E6 := Lib.hid e6
            have E9 := Lib.hid e9
            have E10 := Lib.hid e10
            have hll : l'.length = ([] : List Pr).length := by rw [e4.length_eq, ← List.length_map (f := fun z : Pr × Nat => z.1), e1]
            clear e1 e2 e3 e4 e5 e6 e9 e10 P2
            have hdl : (drainH (lessM m) l').length ≤ 1000000 := by rw [(drain_perm (lessM m) l').length_eq, List.length_map]; omega
            have PD := Lib.hid (play_drain OM.out E1.out E3.out E4.out E5.out)
            have HDL := Lib.hid hdl
            clear hdl
            go_wp2_with fail
            refine (drain_any (fun_mode m) w.heap.size n l' (by omega) w2 E2.out).mono ?_
            rintro e w3 ⟨v3, rfl, o3, s3, f3⟩
            have V3 := Lib.hid (OwnG.lst o3)
            have S3 := Lib.hid s3
            have O3 := Lib.hid (OwnG.lst (E9.out.fr f3 not_ht))
            have B3 : Hid (Below w.heap.size w w3) := E10.out.trans (f3.below E10.out.size)
            clear o3 s3 f3 E2 E9 E10 R2 d0 d1 d2 E1 E3 E4 E5 E6
            go_wp2_with fail
            refine (RS.out _ ([] : List Pr) PP.out.ok (by omega) w3 O3.out).mono ?_
            rintro e w4 ⟨v4, rfl, o4, b4⟩
            have V4 : Hid (LstP w4 v3 (selR (lessM m) ([] : List Pr))) := by rw [← PD.out]; exact V3.out.below b4
            have O4 := Lib.hid (OwnG.lst o4)
            have S4 := Lib.hid (S3.out.below b4)
            have B4 : Hid (Below w.heap.size w w4) := B3.out.trans (b4.mono B3.out.size)
            have HSL : Hid ((selR (lessM m) ([] : List Pr)).length ≤ 1000000) := by rw [← PD.out]; exact HDL.out
            clear o4 b4 V3 O3 S3 B3 PP
            go_wp2_with fail
            refine (rel (W := w4) (same_any v3 v4 (selR (lessM m) ([] : List Pr)) HSL.out w4 V4.out O4.out) (Below.refl _ _)).mono ?_
            rintro e w5 ⟨rfl, b5⟩
            have B5 := B4.out.trans (b5.mono B4.out.size)
            have N := Lib.hid (PlayR.none (k := k + 1) (by omega) (S4.out.below b5) (OwnP.at_nil _ _) B5)
            clear b5 B5 V4 O4 S4 B4 HSL HDL PD
            go_wp2_with fail
            refine (N.out.count).mono ?_
            rintro e w' ⟨rfl, rfl⟩
            go_wp2_with fail
            go_roundw
            case rel => exact ⟨k + 1, [], by go_num, by omega, N⟩
            case measure => simp [intOf]; omega
          · have N := Lib.hid P2.out.more
            clear P2 PP R2
            go_wp2_with fail
            refine (N.out.count).mono ?_
            rintro e w' ⟨rfl, rfl⟩
            go_wp2_with fail
            go_roundw
            case rel => exact ⟨k + 1, [], by go_num, by omega, N⟩
            case measure => simp [intOf]; omega
        · have gr : (0 : Int) < (r.length : Int) := by omega
          have C := Lib.hid (FI.out _ r PA.out.ok hr0 (by omega) _ (OwnG.lst PA.out.choose_spec.choose_spec.choose_spec.2.2.2.2.2.2.2.2.1))
          obtain ⟨i, hi⟩ : ∃ i, firstI (lessM m) r = i := ⟨_, rfl⟩
          have hil := (firstI_is OM.out hr0).lt
          rw [hi] at C hil
          have HI := Lib.hid hi
          clear hi
          go_wp2_with fail
          refine C.out.mono ?_
          rintro e w2 ⟨rfl, b2⟩
          have P2 := Lib.hid (PA.out.below b2)
          have PP := P2
          have r2 := (b2.block wr.heap.size (by simp)).trans ra
          have d0 : w2.cell? ⟨wr.heap.size, 0, none⟩ = some (.int .i64 d) := by rw [cell_of_row _ _ 0 _ _ _ r2]; rfl
          have d1 : w2.cell? ⟨wr.heap.size, 1, none⟩ = some (.int .i64 x.1) := by rw [cell_of_row _ _ 1 _ _ _ r2]; rfl
          have d2 : w2.cell? ⟨wr.heap.size, 2, none⟩ = some (.int .i64 x.2) := by rw [cell_of_row _ _ 2 _ _ _ r2]; rfl
          have R2 := Lib.hid r2
          clear x0 x1 x2 b2 r2 ra PA ba HP C
          rcases five d with rfl | ⟨q0, rfl⟩ | ⟨q0, q1, rfl⟩ | ⟨q0, q1, q2, rfl⟩ | ⟨q0, q1, q2, q3⟩
          · obtain ⟨R, l', n, e1, e2, e3, e4, e5, e6, e7, e8, e9, e10⟩ := P2.out
            have E1 := Lib.hid e1
            have E2 := Lib.hid e2
            have E3 := Lib.hid e3
            have E4 := Lib.hid e4
            have E5 := Lib.hid e5
            have E6 := Lib.hid e6
            have E9 := Lib.hid e9
            have E10 := Lib.hid e10
            have hll : l'.length = r.length := by rw [e4.length_eq, ← List.length_map (f := fun z : Pr × Nat => z.1), e1]
            clear e1 e2 e3 e4 e5 e6 e9 e10 P2
            go_wp2_with fail
            refine (push_any (fun_mode m) w.heap.size n l' x OX.out (by omega) (by omega) w2 E2.out).mono ?_
            rintro e w3 ⟨rfl, s3, f3⟩
            have r3 := f3.other R2.out (fun h => by rcases h with h | h <;> cases h)
            have d1 : w3.cell? ⟨wr.heap.size, 1, none⟩ = some (.int .i64 x.1) := by rw [cell_of_row _ _ 1 _ _ _ r3]; rfl
            have d2 : w3.cell? ⟨wr.heap.size, 2, none⟩ = some (.int .i64 x.2) := by rw [cell_of_row _ _ 2 _ _ _ r3]; rfl
            have S3 := Lib.hid s3
            have O3 := Lib.hid (E9.out.fr f3 not_ht)
            have B3 : Hid (Below w.heap.size w w3) := E10.out.trans (f3.below E10.out.size)
            have hw3 := B3.out.size
            clear s3 f3 r3 E2 E9 E10 R2
            go_wp2_with (at_builtin; refine appG_one pc_len pc_one (by decide) Try.underlying26 info_pr rfl (by decide) _ rfl (.tmp 52) (.tmp 55) rfl w.heap.size _ r x rfl (World.ownsRow.alloc O3.out _) w3.heap.size _ (heap_alloc_new _ _) rfl rfl (by simp; omega) (by omega) ?_)
            intro v4 w4 own4 b4 g4 _
            have g4' : World.grownBy _ w4 (Value.slice A2 r.length c2).ownBlock := g4
            have N0 := PlayR.push OM.out E1.out E3.out E4.out E5.out E6.out e7 e8 (S3.out.below ((Below.refl _ _).alloc (Nat.le_refl _) (.cells #[.int .i64 x.1, .int .i64 x.2] 28 (0, 0)))) (World.ownsRow.alloc O3.out _) own4 g4' ((B3.out.alloc hw3 _).trans b4)
            obtain ⟨A5, c5, hv5, -⟩ := ownK_shape own4
            have hl5 : (r ++ [x]).length = r.length + 1 := by simp
            rw [hl5] at hv5
            subst hv5
            have N := Lib.hid N0
            clear N0 own4 b4 g4 g4' S3 O3 B3 E1 E3 E4 E5 E6 d1 d2 hl5
            go_wp2_with fail
            refine (N.out.count).mono ?_
            rintro e w' ⟨rfl, rfl⟩
            go_wp2_with fail
            go_roundw
            case rel => exact ⟨k + 1, r ++ [x], by go_num, by omega, N⟩
            case measure => simp [intOf]; omega
          · obtain ⟨R, l', n, e1, e2, e3, e4, e5, e6, e7, e8, e9, e10⟩ := P2.out
            have E1 := Lib.hid e1
            have E2 := Lib.hid e2
            have E3 := Lib.hid e3
            have E4 := Lib.hid e4
            have E5 := Lib.hid e5
            have E6 := Lib.hid e6
            have E9 := Lib.hid e9
            have E10 := Lib.hid e10
            have hll : l'.length = r.length := by rw [e4.length_eq, ← List.length_map (f := fun z : Pr × Nat => z.1), e1]
            clear e1 e2 e3 e4 e5 e6 e9 e10 P2
            obtain ⟨a, ha⟩ := at_lt (l := l') (k := 0) (by omega)
            have HF := Lib.hid (play_first OM.out E1.out E3.out E4.out E5.out HI.out ha)
            have HA := Lib.hid ha
            clear ha
            go_wp2_with fail
            refine (pop_yes (fun_mode m) w.heap.size n l' a HA.out (by omega) w2 E2.out).mono ?_
            rintro e w3 ⟨rfl, s3, f3⟩
            have bq : Below w3.heap.size w3 (w3.alloc (.cells #[.int .i64 a.1.1, .int .i64 a.1.2] 28 (0, 0))) := (Below.refl _ _).alloc (Nat.le_refl _) _
            have o3 := E9.out.fr f3 not_ht
            obtain ⟨b2, o2, c3, hv2, hb2, y0, y1⟩ := LstG.pair (OwnG.lst o3) HF.out
            injection hv2 with hA2 hB2 hC2
            subst hA2
            have b3 := E10.out.trans (f3.below E10.out.size)
            have S3 := Lib.hid (s3.below bq)
            have O3 := Lib.hid (OwnG.below o3 bq)
            have B3 : Hid (Below w.heap.size w (w3.alloc (.cells #[.int .i64 a.1.1, .int .i64 a.1.2] 28 (0, 0)))) := b3.alloc b3.size _
            have gi : (i : Int) < (r.length : Int) := by omega
            clear s3 f3 bq o3 b3 E2 E9 E10 R2 d0 d1 d2 hB2 hC2
            go_wp2_with fail
            go_quiet (fail)
            have bd : Below (w3.alloc (.cells #[.int .i64 a.1.1, .int .i64 a.1.2] 28 (0, 0))).heap.size (w3.alloc (.cells #[.int .i64 a.1.1, .int .i64 a.1.2] 28 (0, 0))) ((w3.alloc (.cells #[.int .i64 a.1.1, .int .i64 a.1.2] 28 (0, 0))).drewN nq) := below_drewN (Below.refl _ _) nq
            have S4 := Lib.hid (S3.out.below bd)
            have O4 := Lib.hid (OwnG.below O3.out bd)
            have B4 := Lib.hid (below_drewN B3.out nq)
            generalize (w3.alloc (.cells #[.int .i64 a.1.1, .int .i64 a.1.2] 28 (0, 0))).drewN nq = w4 at S4 O4 B4 ⊢
            clear bd S3 O3 B3 y0 y1
            go_wp2_with fail
            refine (without_any _ r i (by omega) w4 (OwnG.lst O4.out)).mono ?_
            rintro e w5 ⟨v5, rfl, o5, b5⟩
            have N0 := PlayR.pop OM.out E1.out E3.out E4.out E5.out E6.out e7 e8 HI.out HA.out S4.out b5 o5 B4.out
            obtain ⟨A5, c5, hv5, -⟩ := ownK_shape o5
            have hl5 := List.length_eraseIdx_of_lt hil
            rw [hl5] at hv5
            subst hv5
            have N := Lib.hid N0
            clear N0 o5 b5 S4 O4 B4 E1 E3 E4 E5 E6 HF HA
            go_wp2_with fail
            refine (N.out.count).mono ?_
            rintro e w' ⟨rfl, rfl⟩
            have hq : (((r.eraseIdx i).length : Int) != ((r.length - 1 : Nat) : Int)) = false := neq_false (by rw [hl5])
            clear hl5
            go_wp2_with fail
            go_roundw
            case rel => exact ⟨k + 1, r.eraseIdx i, by go_num, by omega, N⟩
            case measure => simp [intOf]; omega
          · obtain ⟨R, l', n, e1, e2, e3, e4, e5, e6, e7, e8, e9, e10⟩ := P2.out
            have E1 := Lib.hid e1
            have E2 := Lib.hid e2
            have E3 := Lib.hid e3
            have E4 := Lib.hid e4
            have E5 := Lib.hid e5
            have E6 := Lib.hid e6
            have E9 := Lib.hid e9
            have E10 := Lib.hid e10
            have hll : l'.length = r.length := by rw [e4.length_eq, ← List.length_map (f := fun z : Pr × Nat => z.1), e1]
            clear e1 e2 e3 e4 e5 e6 e9 e10 P2
            obtain ⟨a, ha⟩ := at_lt (l := l') (k := 0) (by omega)
            have HF := Lib.hid (play_first OM.out E1.out E3.out E4.out E5.out HI.out ha)
            have HA := Lib.hid ha
            clear ha
            go_wp2_with fail
            refine (peek_yes w.heap.size n l' a HA.out (by omega) w2 E2.out).mono ?_
            rintro e w3 ⟨rfl, b3⟩
            have P3 := Lib.hid (PP.out.below (b3.alloc b3.size (.cells #[.int .i64 a.1.1, .int .i64 a.1.2] 28 (0, 0))))
            obtain ⟨b2, o2, c3, hv2, hb2, y0, y1⟩ := LstG.pair (OwnG.lst (OwnG.below E9.out b3)) HF.out
            injection hv2 with hA2 hB2 hC2
            subst hA2
            have gi : (i : Int) < (r.length : Int) := by omega
            clear b3 E2 E9 E10 R2 d0 d1 d2 hB2 hC2 PP
            go_wp2_with fail
            go_quiet (fail)
            have N := Lib.hid ((P3.out.below (below_drewN (Below.refl _ _) nq)).more)
            generalize (w3.alloc (.cells #[.int .i64 a.1.1, .int .i64 a.1.2] 28 (0, 0))).drewN nq = w4 at N ⊢
            clear P3 y0 y1 E1 E3 E4 E5 E6 HF HA
            go_wp2_with fail
            refine (N.out.count).mono ?_
            rintro e w' ⟨rfl, rfl⟩
            go_wp2_with fail
            go_roundw
            case rel => exact ⟨k + 1, r, by go_num, by omega, N⟩
            case measure => simp [intOf]; omega
          · obtain ⟨R, l', n, e1, e2, e3, e4, e5, e6, e7, e8, e9, e10⟩ := P2.out
            have E1 := Lib.hid e1
            have E2 := Lib.hid e2
            have E3 := Lib.hid e3
            have E4 := Lib.hid e4
            have E5 := Lib.hid e5
            have E6 := Lib.hid e6
            have E9 := Lib.hid e9
            have E10 := Lib.hid e10
            have hll : l'.length = r.length := by rw [e4.length_eq, ← List.length_map (f := fun z : Pr × Nat => z.1), e1]
            clear e1 e2 e3 e4 e5 e6 e9 e10 P2
            have hdl : (drainH (lessM m) l').length ≤ 1000000 := by rw [(drain_perm (lessM m) l').length_eq, List.length_map]; omega
            have PD := Lib.hid (play_drain OM.out E1.out E3.out E4.out E5.out)
            have HDL := Lib.hid hdl
            clear hdl
            go_wp2_with fail
            refine (drain_any (fun_mode m) w.heap.size n l' (by omega) w2 E2.out).mono ?_
            rintro e w3 ⟨v3, rfl, o3, s3, f3⟩
            have V3 := Lib.hid (OwnG.lst o3)
            have S3 := Lib.hid s3
            have O3 := Lib.hid (OwnG.lst (E9.out.fr f3 not_ht))
            have B3 : Hid (Below w.heap.size w w3) := E10.out.trans (f3.below E10.out.size)
            clear o3 s3 f3 E2 E9 E10 R2 d0 d1 d2 E1 E3 E4 E5 E6
            go_wp2_with fail
            refine (RS.out _ r PP.out.ok (by omega) w3 O3.out).mono ?_
            rintro e w4 ⟨v4, rfl, o4, b4⟩
            have V4 : Hid (LstP w4 v3 (selR (lessM m) r)) := by rw [← PD.out]; exact V3.out.below b4
            have O4 := Lib.hid (OwnG.lst o4)
            have S4 := Lib.hid (S3.out.below b4)
            have B4 : Hid (Below w.heap.size w w4) := B3.out.trans (b4.mono B3.out.size)
            have HSL : Hid ((selR (lessM m) r).length ≤ 1000000) := by rw [← PD.out]; exact HDL.out
            clear o4 b4 V3 O3 S3 B3 PP
            go_wp2_with fail
            refine (rel (W := w4) (same_any v3 v4 (selR (lessM m) r) HSL.out w4 V4.out O4.out) (Below.refl _ _)).mono ?_
            rintro e w5 ⟨rfl, b5⟩
            have B5 := B4.out.trans (b5.mono B4.out.size)
            have N := Lib.hid (PlayR.none (k := k + 1) (by omega) (S4.out.below b5) (OwnP.at_nil _ _) B5)
            clear b5 B5 V4 O4 S4 B4 HSL HDL PD
            go_wp2_with fail
            refine (N.out.count).mono ?_
            rintro e w' ⟨rfl, rfl⟩
            go_wp2_with fail
            go_roundw
            case rel => exact ⟨k + 1, [], by go_num, by omega, N⟩
            case measure => simp [intOf]; omega
          · have N := Lib.hid P2.out.more
            clear P2 PP R2
            go_wp2_with fail
            refine (N.out.count).mono ?_
            rintro e w' ⟨rfl, rfl⟩
            go_wp2_with fail
            go_roundw
            case rel => exact ⟨k + 1, r, by go_num, by omega, N⟩
            case measure => simp [intOf]; omega
      · have hk2 : k = l.length := by omega
        subst hk2
        have dd2 : decide (l.length < l.length) = false := by simp
        have BB := Lib.hid HP.out.choose_spec.choose_spec.choose_spec.2.2.2.2.2.2.2.2.2
        clear HP hlt
        go_wp2_with fail
        refine (rel (W := w) (ex_any _) BB.out).mono ?_
        rintro e w7 ⟨rfl, b7⟩
        clear BB
        go_wp2_with fail
        go_ret
        exact ⟨rfl, b7⟩
end Go.Proofs.Ytnmomkldlajimaa
