/-
  slices.Concat, Merge, IsFront; Within and the reference's Within. Condition: the lists' lengths are below the bounds that each theorem names.
-/
import Derived.Test.YtokcpgpchiikgaaPIns
namespace Go.Proofs.Ytokcpgpchiikgaa
open Go.RowKit Go.Sort

theorem own_nil_shape {T : TypeId} {w : World} {base : Nat} {v : Value} (h : OwnG vc T 4 w base v []) : ∃ A c, v = .slice A 0 c := by
  obtain ⟨A, c, hv, _⟩ := ownK_shape h
  exact ⟨A, c, hv⟩
theorem grow_any (n : Nat) (hn : n ≤ 1000000) (w : World) :
    Calls Try.prog 41 #[.slice none 0 0, .int .i64 (n : Int)] w fun e w' => ∃ v', e = .returned v' ∧ OwnV w' w.heap.size v' [] ∧ RowKit.Below w.heap.size w w' := by
  rcases Nat.eq_zero_or_pos n with rfl | h
  · refine (Try.slices_Grow_vecs_room none 0 0 0 w (Nat.le_refl _) (by decide) (by decide) (Nat.le_refl _)).mono ?_
    rintro e w' ⟨rfl, rfl⟩
    exact ⟨_, rfl, OwnG.nil _ _ _ _ _, RowKit.Below.refl _ _⟩
  · obtain ⟨i, hi, hz, hsz, hby⟩ := info_parts info_pv
    refine (Try.slices_Grow_vecs i _ hi hz (by omega) none 0 0 n [] w (Nat.le_refl _) (by omega) (by rw [hby]; omega) (by omega) (by simp) (fun _ => rfl) (fun a ha => by cases ha)).mono ?_
    rintro e w' ⟨rfl, rfl⟩
    have h1 := grownCap_ge w (0 + n) 0 23
    have h2 := grownCap_le_maxLen w (0 + n) 0 23 (by unfold maxLen; omega)
    generalize grownCap w (0 + n) 0 23 = G at h1 h2 ⊢
    refine ⟨_, rfl, ⟨rfl, .inr ⟨w.heap.size, G, _, rfl, Nat.le_refl _, heap_alloc_new _ _, by simp, h2, ?_, ?_⟩⟩, ((RowKit.Below.refl _ _).drew).alloc (Nat.le_refl _) _⟩
    · simp [size_zeroCells, Value.cells]
      omega
    · simp [fl]
set_option maxRecDepth 100000 in
set_option maxHeartbeats 4000000 in
theorem concat_any (va vb : Value) (a b : List Vec) (ha : a.length ≤ 100000) (hb : b.length ≤ 100000) (bs : Nat) (w : World) (h0 : w.cell? ⟨bs, 0, none⟩ = some va) (h1 : w.cell? ⟨bs, 1, none⟩ = some vb) (hA : LstV w va a) (hB : LstV w vb b) :
    Calls Try.prog 37 #[.slice (some ⟨bs, 0, none⟩) 2 2] w fun e w' => ∃ v', e = .returned v' ∧ LstV w' v' (a ++ b) ∧ RowKit.Below w.heap.size w w' := by
  have hh := hA
  obtain ⟨A, ca, rfl, -⟩ := hh
  have hh := hB
  obtain ⟨B, cb, rfl, -⟩ := hh
  have HA := Lib.hid hA
  have HB := Lib.hid hB
  have G := Lib.hid (grow_any (a.length + b.length) (by omega) w)
  rw [show ((a.length + b.length : Nat) : Int) = (a.length : Int) + (b.length : Int) by omega] at G
  have hbs := World.block_lt_of_cell? _ _ h0
  have za : decide ((a.length : Int) < 0) = false := decide_eq_false (by omega)
  have zab : decide ((a.length : Int) + (b.length : Int) < 0) = false := decide_eq_false (by omega)
  have wab : IntKind.i64.wrap ((a.length : Int) + (b.length : Int)) = (a.length : Int) + (b.length : Int) := IntWalk.i64_in _ (by omega)
  clear hA hB
  go_enter Try.func37, Try.ntmps37
  go_wp2_with fail
  go_loopw [3, 11] (fun s i wr => wr = w ∧ (i = .int .i64 0 ∧ s = .int .i64 0 ∨ i = .int .i64 1 ∧ s = .int .i64 (a.length : Int) ∨ i = .int .i64 2 ∧ s = .int .i64 ((a.length : Int) + (b.length : Int)))) (fun _ i _ => 2 - (intOf i).toNat)
  case atStart => exact ⟨rfl, .inl ⟨rfl, rfl⟩⟩
  case round =>
    obtain ⟨hw, ⟨rfl, rfl⟩ | ⟨rfl, rfl⟩ | ⟨rfl, rfl⟩⟩ := hrel
    · subst hw
      clear G zab wab
      go_wp2_with fail
      go_roundw
      case rel => exact ⟨trivial, .inr (.inl ⟨rfl, rfl⟩)⟩
      case measure => simp [intOf]
    · subst hw
      clear G
      go_wp2_with fail
      go_roundw
      case rel => exact ⟨trivial, .inr (.inr ⟨rfl, rfl⟩)⟩
      case measure => simp [intOf]
    · have hw' := hw.symm
      subst hw'
      clear hw
      go_wp2_with fail
      refine G.out.mono ?_
      rintro e w1 ⟨v1, rfl, o1, b1⟩
      have O1 := Lib.hid o1
      have B1 := Lib.hid b1
      obtain ⟨A1, c1, rfl⟩ := own_nil_shape o1
      clear G o1 b1
      go_wp2_with fail
      go_loopw [6, 27] (fun u i w2 => Hid (RowKit.Below w.heap.size w w2) ∧ (i = .int .i64 0 ∧ Hid (OwnV w2 w.heap.size u []) ∨ i = .int .i64 1 ∧ Hid (OwnV w2 w.heap.size u a) ∨ i = .int .i64 2 ∧ Hid (OwnV w2 w.heap.size u (a ++ b)))) (fun _ i _ => 2 - (intOf i).toNat)
      case atStart => exact ⟨B1, .inl ⟨rfl, O1⟩⟩
      case round =>
        obtain ⟨HW, ⟨rfl, HO⟩ | ⟨rfl, HO⟩ | ⟨rfl, HO⟩⟩ := hrel
        · have q := (HW.out.cell (p := ⟨bs, 0, none⟩) hbs).trans h0
          have LM := Lib.hid (HA.out.below HW.out)
          have hz := HW.out.size
          clear h0 h1
          go_wp2_with (at_builtin; refine appG_list vc_len vc_one (by decide) Try.underlying32 info_pv rfl (by decide) _ rfl (.tmp 31) (.tmp 32) rfl w.heap.size _ [] a rfl HO.out _ rfl LM.out hz (by first | omega | (simp; omega)) ?_; intro v3 w3 own3 b3 gr3 wh3; have O3 := Lib.hid own3; have B3 := Lib.hid (HW.out.trans b3); clear own3 b3 gr3 wh3)
          clear HO HW LM q
          go_wp2_with fail
          go_roundw
          case rel => exact ⟨B3, .inr (.inl ⟨rfl, O3⟩)⟩
          case measure => simp [intOf]
        · have q := (HW.out.cell (p := ⟨bs, 1, none⟩) hbs).trans h1
          have LM := Lib.hid (HB.out.below HW.out)
          have hz := HW.out.size
          clear h0 h1
          go_wp2_with (at_builtin; refine appG_list vc_len vc_one (by decide) Try.underlying32 info_pv rfl (by decide) _ rfl (.tmp 31) (.tmp 32) rfl w.heap.size _ a b rfl HO.out _ rfl LM.out hz (by first | omega | (simp; omega)) ?_; intro v3 w3 own3 b3 gr3 wh3; have O3 := Lib.hid own3; have B3 := Lib.hid (HW.out.trans b3); clear own3 b3 gr3 wh3)
          clear HO HW LM q
          go_wp2_with fail
          go_roundw
          case rel => exact ⟨B3, .inr (.inr ⟨rfl, O3⟩)⟩
          case measure => simp [intOf]
        · clear h0 h1
          go_wp2_with fail
          go_ret
          exact ⟨_, rfl, OwnG.lst HO.out, HW.out⟩
theorem cix_lit {T : TypeId} (hT : Try.prog.underlying T = some (.array 4 3)) (B : Nat) : (∀ W, (Instr.indexAt T (.pointer (some ⟨B, 0, none⟩)) (.int .i64 0)).run Try.prog W = .ok (.pointer (some ⟨B, 0, none⟩)) W) ∧ (∀ W, (Instr.indexAt T (.pointer (some ⟨B, 0, none⟩)) (.int .i64 1)).run Try.prog W = .ok (.pointer (some ⟨B, 1, none⟩)) W) ∧
    (∀ W, (Instr.indexAt T (.pointer (some ⟨B, 0, none⟩)) (.int .i64 2)).run Try.prog W = .ok (.pointer (some ⟨B, 2, none⟩)) W) ∧ (∀ W, (Instr.indexAt T (.pointer (some ⟨B, 0, none⟩)) (.int .i64 3)).run Try.prog W = .ok (.pointer (some ⟨B, 3, none⟩)) W) :=
  ⟨cix_run hT B 0 (by omega), cix_run hT B 1 (by omega), cix_run hT B 2 (by omega), cix_run hT B 3 (by omega)⟩
set_option maxRecDepth 100000 in
set_option maxHeartbeats 8000000 in
theorem within_list (v : Value) (l : List Vec) (x : Vec) (hl : l.length ≤ 900000) (w : World) (h : LstV w v l) :
    Calls Try.prog 27 #[v, .agg #[.int .i64 x.1, .int .i64 x.2.1, .int .i64 x.2.2.1, .int .i64 x.2.2.2]] w fun e w' => ∃ v', e = .returned v' ∧ LstV w' v' (l.filter fun y => wi y x) ∧ RowKit.Below w.heap.size w w' := by
  have hh := h
  obtain ⟨A, c, rfl, -⟩ := hh
  obtain ⟨w0, hw0, hs, rx, b0⟩ := box_one w x 23
  have hz := b0.size
  have B0 := Lib.hid b0
  have H := Lib.hid (h.below b0)
  have RX := Lib.hid rx
  clear b0 rx h
  go_enter Try.func27, Try.ntmps27
  go_wp2_with fail
  clear hw0
  go_loopw [5, 10] (fun u i wr => ∃ k : Nat, i = .int .i64 (k : Int) ∧ k ≤ l.length ∧ Hid (OwnV wr w0.heap.size u ((l.take k).filter fun y => wi y x)) ∧ Hid (RowKit.Below w0.heap.size w0 wr)) (fun _ i _ => l.length - (intOf i).toNat)
  case atStart => exact ⟨0, rfl, Nat.zero_le _, Lib.hid (OwnG.nil _ _ _ _ _), Lib.hid (RowKit.Below.refl _ _)⟩
  case round =>
    obtain ⟨k, rfl, hk, HO, HB⟩ := hrel
    by_cases hlt : k < l.length
    · obtain ⟨y, hy⟩ := at_lt hlt
      obtain ⟨b, o, rfl, hb, m0, m1, m2, m3⟩ := v_at (H.out.below HB.out) hy
      have gk : (k : Int) < (l.length : Int) := by omega
      have N := Lib.hid (fil_next hy fun y => wi y x)
      obtain ⟨w3, hw3, hs3, ry, b3⟩ := box_one wr y 23
      have hz3 := HB.out.size
      have RY := Lib.hid ry
      obtain ⟨n0, n1, n2, n3⟩ := box_at ry
      obtain ⟨p0, p1, p2, p3⟩ := box_at ((b3.block w.heap.size (by omega)).trans ((HB.out.block w.heap.size (by omega)).trans RX.out))
      have hfl : ((l.take k).filter fun y => wi y x).length ≤ 900000 := by
        have := List.length_filter_le (fun y => wi y x) (l.take k)
        rw [List.length_take] at this
        omega
      have O3 := Lib.hid (HO.out.below b3)
      have B3 := Lib.hid (HB.out.trans (b3.mono hz3))
      clear hy ry b3 HO HB
      have CW := Lib.hid (within_any y x w3)
      cases hq : wi y x
      · rw [hq] at CW
        have E : Hid ((l.take (k + 1)).filter (fun y => wi y x) = (l.take k).filter fun y => wi y x) := by
          show _ = _
          rw [N.out, if_neg (by rw [hq]; simp)]
        clear N hq
        go_wp2_with fail
        refine CW.out.mono ?_
        rintro e w4 ⟨rfl, b4⟩
        have O4 : Hid (OwnV w4 w0.heap.size u5 ((l.take (k + 1)).filter fun y => wi y x)) := by
          show OwnV _ _ _ _
          rw [E.out]
          exact O3.out.below b4
        have B4 := Lib.hid (B3.out.trans (b4.mono B3.out.size))
        clear b4 CW O3 B3 E
        go_wp2_with fail
        go_roundw
        case rel => exact ⟨k + 1, by go_num, by omega, O4, B4⟩
        case measure => simp [intOf]; omega
      · rw [hq] at CW
        have E : Hid ((l.take (k + 1)).filter (fun y => wi y x) = (l.take k).filter (fun y => wi y x) ++ [y]) := by
          show _ = _
          rw [N.out, if_pos hq]
        clear N hq
        go_wp2_with fail
        refine CW.out.mono ?_
        rintro e w4 ⟨rfl, b4⟩
        obtain ⟨q0, q1, q2, q3⟩ := box_at ((b4.block wr.heap.size (by omega)).trans RY.out)
        have O4 := Lib.hid (O3.out.below b4)
        have B4 := Lib.hid (B3.out.trans (b4.mono B3.out.size))
        clear b4 CW O3 B3
        go_wp2_with (at_builtin; refine appG_one vc_len vc_one (by decide) Try.underlying32 info_pv rfl (by decide) _ rfl (.tmp 17) (.tmp 19) rfl w0.heap.size _ _ y rfl (World.ownsRow.alloc O4.out _) w4.heap.size _ (heap_alloc_new _ _) rfl rfl (by have := B4.out.size; simp; omega) (by omega) ?_; intro v5 w5 own5 b5 gr5 wh5; have O5 := Lib.hid own5; have B5 := Lib.hid ((B4.out.alloc B4.out.size _).trans b5); clear own5 b5 gr5 wh5)
        have O6 : Hid (OwnV w5 w0.heap.size v5 ((l.take (k + 1)).filter fun y => wi y x)) := by
          show OwnV _ _ _ _
          rw [E.out]
          exact O5.out
        clear O5 O4 B4 E
        go_wp2_with fail
        go_roundw
        case rel => exact ⟨k + 1, by go_num, by omega, O6, B5⟩
        case measure => simp [intOf]; omega
    · have d : decide (k < l.length) = false := by rw [decide_eq_false_iff_not]; exact hlt
      have O : Hid (LstV wr u5 (l.filter fun y => wi y x)) := by
        have := HO.out
        rw [List.take_of_length_le (by omega)] at this
        exact OwnG.lst this
      clear hlt HO
      go_wp2_with fail
      go_ret
      exact ⟨_, rfl, O.out, B0.out.trans (HB.out.mono hz)⟩
set_option maxRecDepth 100000 in
set_option maxHeartbeats 8000000 in
theorem rwithin_list (v : Value) (l : List Vec) (x : Vec) (hl : l.length ≤ 900000) (w : World) (h : LstV w v l) :
    Calls Try.prog 28 #[v, .agg #[.int .i64 x.1, .int .i64 x.2.1, .int .i64 x.2.2.1, .int .i64 x.2.2.2]] w fun e w' => ∃ v', e = .returned v' ∧ LstV w' v' (l.filter fun y => wi y x) ∧ RowKit.Below w.heap.size w w' := by
  have hh := h
  obtain ⟨A, c, rfl, -⟩ := hh
  obtain ⟨w0, hw0, hs, rx, b0⟩ := box_one w x 26
  have hz := b0.size
  have B0 := Lib.hid b0
  have H := Lib.hid (h.below b0)
  have RX := Lib.hid rx
  clear b0 rx h
  go_enter Try.func28, Try.ntmps28
  go_wp2_with fail
  clear hw0
  go_loopw [5, 6] (fun u i wr => ∃ k : Nat, i = .int .i64 (k : Int) ∧ k ≤ l.length ∧ Hid (OwnR wr w0.heap.size u ((l.take k).filter fun y => wi y x)) ∧ Hid (RowKit.Below w0.heap.size w0 wr)) (fun _ i _ => l.length - (intOf i).toNat)
  case atStart => exact ⟨0, rfl, Nat.zero_le _, Lib.hid (OwnG.nil _ _ _ _ _), Lib.hid (RowKit.Below.refl _ _)⟩
  case round =>
    obtain ⟨k, rfl, hk, HO, HB⟩ := hrel
    by_cases hlt : k < l.length
    · obtain ⟨y, hy⟩ := at_lt hlt
      obtain ⟨b, o, rfl, hb, m0, m1, m2, m3⟩ := v_at (H.out.below HB.out) hy
      have gk : (k : Int) < (l.length : Int) := by omega
      have N := Lib.hid (fil_next hy fun y => wi y x)
      obtain ⟨w3, hw3, hs3, ry, b3⟩ := box_one wr y 26
      have hz3 := HB.out.size
      have RY := Lib.hid ry
      obtain ⟨n0, n1, n2, n3⟩ := box_at ry
      obtain ⟨p0, p1, p2, p3⟩ := box_at ((b3.block w.heap.size (by omega)).trans ((HB.out.block w.heap.size (by omega)).trans RX.out))
      have hfl : ((l.take k).filter fun y => wi y x).length ≤ 900000 := by
        have := List.length_filter_le (fun y => wi y x) (l.take k)
        rw [List.length_take] at this
        omega
      have O3 := Lib.hid (HO.out.below b3)
      have B3 := Lib.hid (HB.out.trans (b3.mono hz3))
      clear hy ry b3 HO HB
      obtain ⟨i0, i1, i2, i3⟩ := cix_lit Try.underlying26 w.heap.size
      obtain ⟨j0, j1, j2, j3⟩ := cix_lit Try.underlying26 wr.heap.size
      by_cases hq : wi y x = true
      · have E : Hid ((l.take (k + 1)).filter (fun y => wi y x) = (l.take k).filter (fun y => wi y x) ++ [y]) := by
          show _ = _
          rw [N.out, if_pos hq]
        obtain ⟨h0, h1, h2, h3⟩ := (wi_iff y x).1 hq
        clear N hq hs3
        go_wp2_with (at_builtin; refine appG_one vc_len vc_one (by decide) Try.underlying35 info_rv rfl (by decide) _ rfl (.tmp 44) (.tmp 46) rfl w0.heap.size _ _ y rfl (World.ownsRow.alloc O3.out _) w3.heap.size _ (heap_alloc_new _ _) rfl rfl (by have := B3.out.size; simp; omega) (by omega) ?_; intro v5 w5 own5 b5 gr5 wh5; have O5 := Lib.hid own5; have B5 := Lib.hid ((B3.out.alloc B3.out.size _).trans b5); clear own5 b5 gr5 wh5)
        have O6 : Hid (OwnR w5 w0.heap.size v5 ((l.take (k + 1)).filter fun y => wi y x)) := by
          show OwnR _ _ _ _
          rw [E.out]
          exact O5.out
        clear O5 O3 B3 E
        go_wp2_with fail
        go_roundw
        case rel => exact ⟨k + 1, by go_num, by omega, O6, B5⟩
        case measure => simp [intOf]; omega
      · have E : Hid ((l.take (k + 1)).filter (fun y => wi y x) = (l.take k).filter fun y => wi y x) := by
          show _ = _
          rw [N.out, if_neg hq]
        have O4 : Hid (OwnR w3 w0.heap.size u5 ((l.take (k + 1)).filter fun y => wi y x)) := by
          show OwnR _ _ _ _
          rw [E.out]
          exact O3.out
        have hcase : (decide (y.1 ≤ x.1) = false) ∨ (y.1 ≤ x.1 ∧ decide (y.2.1 ≤ x.2.1) = false) ∨ (y.1 ≤ x.1 ∧ y.2.1 ≤ x.2.1 ∧ decide (y.2.2.1 ≤ x.2.2.1) = false) ∨ (y.1 ≤ x.1 ∧ y.2.1 ≤ x.2.1 ∧ y.2.2.1 ≤ x.2.2.1 ∧ decide (y.2.2.2 ≤ x.2.2.2) = false) := by
          rw [wi_iff] at hq
          simp only [decide_eq_false_iff_not]
          omega
        clear N hq O3 E
        rcases hcase with d0 | ⟨h0, d1⟩ | ⟨h0, h1, d2⟩ | ⟨h0, h1, h2, d3⟩
        all_goals
          go_wp2_with fail
          go_roundw
          case rel => exact ⟨k + 1, by go_num, by omega, O4, B3⟩
          case measure => simp [intOf]; omega
    · have d : decide (k < l.length) = false := by rw [decide_eq_false_iff_not]; exact hlt
      have O : Hid (LstV wr u5 (l.filter fun y => wi y x)) := by
        have := HO.out
        rw [List.take_of_length_le (by omega)] at this
        exact OwnG.lst this
      clear hlt HO
      go_wp2_with fail
      go_ret
      exact ⟨_, rfl, O.out, B0.out.trans (HB.out.mono hz)⟩
theorem isfront_any (v : Value) (l : List Vec) (hl : l.length ≤ 900000) (w : World) (h : LstV w v l) : Calls Try.prog 19 #[v] w fun e w' => e = .returned (.bool (decide (l = frV l))) ∧ Below w.heap.size w w' := by
  have C := Lib.hid (front_any v l (by omega) w h)
  have H := Lib.hid h
  have hfl := frV_len l
  generalize frV l = f at C hfl ⊢
  clear h
  go_enter Try.func19, Try.ntmps19
  go_wp2_with fail
  refine C.out.mono ?_
  rintro e w1 ⟨v1, rfl, l1, b1⟩
  have Q := Lib.hid (equal_any v v1 l f (by omega) (by omega) w1 (H.out.below b1) l1)
  have B1 := Lib.hid b1
  clear l1 b1 C
  go_wp2_with fail
  refine Q.out.mono ?_
  rintro e w2 ⟨rfl, b2⟩
  have B2 := Lib.hid (B1.out.trans (b2.mono B1.out.size))
  clear b2 Q B1
  go_wp2_with fail
  go_ret
  exact ⟨rfl, B2.out⟩
theorem merge_any (va vb : Value) (a b : List Vec) (ha : a.length ≤ 100000) (hb : b.length ≤ 100000) (w : World) (hA : LstV w va a) (hB : LstV w vb b) :
    Calls Try.prog 25 #[va, vb] w fun e w' => ∃ v', e = .returned v' ∧ LstV w' v' (frV (a ++ b)) ∧ RowKit.Below w.heap.size w w' := by
  have hh := hA
  obtain ⟨A, ca, rfl, -⟩ := hh
  have hh := hB
  obtain ⟨B, cb, rfl, -⟩ := hh
  have ba : RowKit.Below w.heap.size w (w.alloc (.cells #[.slice A a.length ca, .slice B b.length cb] 32 (0, 0))) := (RowKit.Below.refl _ _).alloc (Nat.le_refl _) _
  have C := Lib.hid (concat_any _ _ a b ha hb w.heap.size _ (by rw [cell_of_row _ _ 0 _ _ _ (heap_alloc_new w (.cells #[.slice A a.length ca, .slice B b.length cb] 32 (0, 0)))]; rfl) (by rw [cell_of_row _ _ 1 _ _ _ (heap_alloc_new w (.cells #[.slice A a.length ca, .slice B b.length cb] 32 (0, 0)))]; rfl) (hA.below ba) (hB.below ba))
  have BA := Lib.hid ba
  have hrl : (a ++ b).length ≤ 200000 := by rw [List.length_append]; omega
  generalize a ++ b = r at C hrl ⊢
  clear hA hB ba
  go_enter Try.func25, Try.ntmps25
  go_wp2_with fail
  refine C.out.mono ?_
  rintro er w1 ⟨vr, rfl, l1, b1⟩
  have F := Lib.hid (front_any vr r (by omega) w1 l1)
  have B1 := Lib.hid (BA.out.trans (b1.mono BA.out.size))
  clear l1 b1 C BA
  go_wp2_with fail
  refine F.out.mono ?_
  rintro er w2 ⟨v2, rfl, l2, b2⟩
  have R : Hid (LstV w2 v2 (frV r) ∧ RowKit.Below w.heap.size w w2) := ⟨l2, B1.out.trans (b2.mono B1.out.size)⟩
  clear l2 b2 F B1
  go_wp2_with fail
  go_ret
  exact ⟨_, rfl, R.out⟩
end Go.Proofs.Ytokcpgpchiikgaa
