/-
  BinarySearchFunc and Insert. Condition: lists of at most 1000000 vectors.
-/
import Derived.Test.YtokcpgpchiikgaaPFr
namespace Go.Proofs.Ytokcpgpchiikgaa
open Go.RowKit Go.Sort

/-- The vectors before an index precede x. -/
def Lo (f : List Vec) (x : Vec) (i : Nat) : Prop := ∀ t z, t < i → f[t]? = some z → cv z x < 0
/-- Those from an index on do not. -/
def Hi (f : List Vec) (x : Vec) (j : Nat) : Prop := ∀ t z, j ≤ t → f[t]? = some z → ¬ cv z x < 0
theorem asc_at {f : List Vec} (ha : Asc f) {t h : Nat} {z y : Vec} (hz : f[t]? = some z) (hy : f[h]? = some y) (hth : t < h) : cv z y < 0 := by
  obtain ⟨h1, rfl⟩ := List.getElem?_eq_some_iff.1 hz
  obtain ⟨h2, rfl⟩ := List.getElem?_eq_some_iff.1 hy
  exact List.pairwise_iff_getElem.1 ha t h h1 h2 hth
theorem Lo.next {f : List Vec} (ha : Asc f) {x y : Vec} {h : Nat} (hy : f[h]? = some y) (hc : cv y x < 0) : Lo f x (h + 1) := by
  intro t z ht hz
  rcases Nat.lt_or_eq_of_le (Nat.le_of_lt_succ ht) with e | e
  · exact cv_trans (asc_at ha hz hy e) hc
  · subst e
    rw [hz] at hy
    cases hy
    exact hc
theorem Hi.next {f : List Vec} (ha : Asc f) {x y : Vec} {h : Nat} (hy : f[h]? = some y) (hc : ¬ cv y x < 0) : Hi f x h := by
  intro t z ht hz
  rcases Nat.lt_or_eq_of_le ht with e | e
  · intro k
    exact hc (cv_trans (asc_at ha hy hz e) k)
  · subst e
    rw [hz] at hy
    cases hy
    exact hc
theorem lohi_filter {f : List Vec} {x : Vec} {i : Nat} (hl : Lo f x i) (hh : Hi f x i) (p : Vec → Bool) : f.filter (fun w => decide (cv w x < 0)) = f.take i ∧ f.filter (fun w => !decide (cv w x < 0) && p w) = (f.drop i).filter p := by
  have e : f = f.take i ++ f.drop i := (List.take_append_drop i f).symm
  have h1 : ∀ w ∈ f.take i, cv w x < 0 := by
    intro w hw
    obtain ⟨t, ht, rfl⟩ := List.mem_iff_getElem.1 hw
    rw [List.getElem_take]
    rw [List.length_take] at ht
    exact hl t _ (by omega) (List.getElem?_eq_getElem (by omega))
  have h2 : ∀ w ∈ f.drop i, ¬ cv w x < 0 := by
    intro w hw
    obtain ⟨t, ht, rfl⟩ := List.mem_iff_getElem.1 hw
    rw [List.getElem_drop]
    rw [List.length_drop] at ht
    exact hh (i + t) _ (by omega) (List.getElem?_eq_getElem (by omega))
  constructor
  · conv => lhs; rw [e]
    rw [List.filter_append, List.filter_eq_self.2 fun w hw => decide_eq_true (h1 w hw), List.filter_eq_nil_iff.2 fun w hw => by simp [h2 w hw], List.append_nil]
  · conv => lhs; rw [e]
    rw [List.filter_append, List.filter_eq_nil_iff.2 fun w hw => by simp [h1 w hw], List.nil_append]
    refine List.filter_congr fun w hw => ?_
    simp [h2 w hw]
theorem ins_cut {f : List Vec} {x : Vec} {i : Nat} (hl : Lo f x i) (hh : Hi f x i) (hc : cov f x = false) : insV f x = f.take i ++ x :: (f.drop i).filter fun w => !dom x w := by
  unfold insV
  rw [if_neg (by rw [hc]; simp), (lohi_filter hl hh fun w => !dom x w).1, (lohi_filter hl hh fun w => !dom x w).2]
theorem fil_next {l : List Vec} {k : Nat} {y : Vec} (h : l[k]? = some y) (p : Vec → Bool) : (l.take (k + 1)).filter p = if p y = true then (l.take k).filter p ++ [y] else (l.take k).filter p := by
  rw [take_at l k y h, List.filter_append]
  by_cases hp : p y = true <;> simp [hp]
set_option maxRecDepth 100000 in
set_option maxHeartbeats 4000000 in
theorem bs_any (v : Value) (f : List Vec) (ha : Asc f) (x : Vec) (hl : f.length ≤ 1000000) (w : World) (h : LstV w v f) :
    Calls Try.prog 36 #[v, .agg #[.int .i64 x.1, .int .i64 x.2.1, .int .i64 x.2.2.1, .int .i64 x.2.2.2], .func (.func 11) #[] #[]] w fun e w' => ∃ (i : Nat) (q : Bool), e = .returned (.tuple #[.int .i64 (i : Int), .bool q]) ∧ i ≤ f.length ∧ Lo f x i ∧ Hi f x i ∧ RowKit.Below w.heap.size w w' := by
  have hh := h
  obtain ⟨A, c, rfl, -⟩ := hh
  obtain ⟨w0, hw0, hs, rx, b0⟩ := box_one w x 23
  have hz := b0.size
  have B0 := Lib.hid b0
  have H := Lib.hid (h.below b0)
  have RX := Lib.hid rx
  have HA := Lib.hid ha
  have ce : ∀ args w, (callFunc 11 args).run Try.prog w = .ok (.enter 11 args) w := enters_of Try.func11 (by kernel_rfl) rfl
  clear b0 rx h ha
  go_enter Try.func36, Try.ntmps36
  go_wp2_with fail
  clear hw0
  go_loopw [9, 10] (fun a b wr => ∃ i j : Nat, a = .int .i64 (i : Int) ∧ b = .int .i64 (j : Int) ∧ i ≤ j ∧ j ≤ f.length ∧ Hid (Lo f x i) ∧ Hid (Hi f x j) ∧ Hid (RowKit.Below w0.heap.size w0 wr)) (fun a b _ => (intOf b - intOf a).toNat)
  case atStart => exact ⟨0, f.length, rfl, rfl, Nat.zero_le _, Nat.le_refl _, fun t z ht => absurd ht (Nat.not_lt_zero _), fun t z ht hz => absurd (List.getElem?_eq_some_iff.1 hz).1 (by omega), Lib.hid (RowKit.Below.refl _ _)⟩
  case round =>
    obtain ⟨i, j, rfl, rfl, hij, hj, HL, HH, HB⟩ := hrel
    by_cases hlt : i < j
    · have gk : (i : Int) < (j : Int) := by omega
      obtain ⟨m, hm⟩ : ∃ m : Nat, m = (i + j) / 2 := ⟨_, rfl⟩
      have hm' : ((i : Int) + (j : Int)) / 2 = (m : Int) := by omega
      have him : i ≤ m := by omega
      have hmj : m < j := by omega
      obtain ⟨y, hy⟩ := (at_lt (by omega) : ∃ y, f[m]? = some y)
      obtain ⟨b, o, rfl, hb, m0, m1, m2, m3⟩ := v_at (H.out.below HB.out) hy
      obtain ⟨p0, p1, p2, p3⟩ := box_at ((HB.out.block w.heap.size (by omega)).trans RX.out)
      have M0 := fun d os => cell_regrown m0 d os
      have M1 := fun d os => cell_regrown m1 d os
      have M2 := fun d os => cell_regrown m2 d os
      have M3 := fun d os => cell_regrown m3 d os
      have P0 := fun d os => cell_regrown p0 d os
      have P1 := fun d os => cell_regrown p1 d os
      have P2 := fun d os => cell_regrown p2 d os
      have P3 := fun d os => cell_regrown p3 d os
      have gm : (m : Int) < (f.length : Int) := by omega
      have D := Lib.hid (fun d os => Calls.regrown_of (w := wr) (d := d) (os := os) (cmp_any y x _))
      have NL := Lib.hid (Lo.next HA.out (x := x) hy)
      have NH := Lib.hid (Hi.next HA.out (x := x) hy)
      generalize cv y x = r at D NL NH
      clear hy m0 m1 m2 m3 p0 p1 p2 p3 hm hb
      by_cases hc : r < 0
      · have L2 : Hid (Lo f x (m + 1)) := NL.out hc
        clear NL NH HL
        go_wp2_with fail
        clear hm'
        refine wp_region_quiet_below (by kernel_rfl) (by kernel_rfl) ?_
        repeat (go_big_quiet_step (with_reducible exact D.out _ _))
        refine wpQuiet_nil ?_
        intro w4 hw4
        have B4 := Lib.hid (regrown_below HB.out hw4)
        clear hw4 HB M0 M1 M2 M3 P0 P1 P2 P3 D
        go_wp2_with fail
        go_roundw
        case rel => exact ⟨m + 1, j, by go_num, rfl, by omega, hj, L2, HH, B4⟩
        case measure => simp [intOf]; omega
      · have d : decide (r < 0) = false := decide_eq_false hc
        have H2 : Hid (Hi f x m) := NH.out hc
        clear NL NH HH hc
        go_wp2_with fail
        clear hm'
        refine wp_region_quiet_below (by kernel_rfl) (by kernel_rfl) ?_
        repeat (go_big_quiet_step (with_reducible exact D.out _ _))
        refine wpQuiet_nil ?_
        intro w4 hw4
        have B4 := Lib.hid (regrown_below HB.out hw4)
        clear hw4 HB M0 M1 M2 M3 P0 P1 P2 P3 D
        go_wp2_with fail
        go_roundw
        case rel => exact ⟨i, m, rfl, rfl, him, by omega, HL, H2, B4⟩
        case measure => simp [intOf]; omega
    · obtain rfl : i = j := by omega
      have dk : decide (i < i) = false := by simp
      clear hlt hij
      by_cases hn : i < f.length
      · have gk : (i : Int) < (f.length : Int) := by omega
        obtain ⟨y, hy⟩ := at_lt hn
        obtain ⟨b, o, rfl, hb, m0, m1, m2, m3⟩ := v_at (H.out.below HB.out) hy
        obtain ⟨p0, p1, p2, p3⟩ := box_at ((HB.out.block w.heap.size (by omega)).trans RX.out)
        have M0 := fun d os => cell_regrown m0 d os
        have M1 := fun d os => cell_regrown m1 d os
        have M2 := fun d os => cell_regrown m2 d os
        have M3 := fun d os => cell_regrown m3 d os
        have P0 := fun d os => cell_regrown p0 d os
        have P1 := fun d os => cell_regrown p1 d os
        have P2 := fun d os => cell_regrown p2 d os
        have P3 := fun d os => cell_regrown p3 d os
        have D := Lib.hid (fun d os => Calls.regrown_of (w := wr) (d := d) (os := os) (cmp_any y x _))
        generalize cv y x = r at D
        clear hy m0 m1 m2 m3 p0 p1 p2 p3 hb hn
        go_wp2_with fail
        refine wp_region_quiet_below (by kernel_rfl) (by kernel_rfl) ?_
        repeat (go_big_quiet_step (with_reducible exact D.out _ _))
        refine wpQuiet_nil ?_
        intro w4 hw4
        have B4 := Lib.hid (regrown_below HB.out hw4)
        clear hw4 HB M0 M1 M2 M3 P0 P1 P2 P3 D
        go_wp2_with fail
        go_ret2
        exact ⟨i, _, rfl, hj, HL.out, HH.out, B0.out.trans (B4.out.mono hz)⟩
      · have dn : decide (i < f.length) = false := by rw [decide_eq_false_iff_not]; exact hn
        clear hn
        go_wp2_with fail
        refine wp_region_quiet_below (by kernel_rfl) (by kernel_rfl) ?_
        repeat (go_big_quiet_step (fail))
        refine wpQuiet_nil ?_
        intro w4 hw4
        have B4 := Lib.hid (regrown_below HB.out hw4)
        clear hw4 HB
        go_wp2_with fail
        go_ret2
        exact ⟨i, _, rfl, hj, HL.out, HH.out, B0.out.trans (B4.out.mono hz)⟩
theorem elem_pv : Try.prog.elem 32 = 23 := by kernel_rfl
theorem under_pv : Try.prog.underlying 32 = some (.slice (Try.prog.elem 32)) := by kernel_rfl
/-- f[:i:i]. -/
theorem cut_full {w : World} {A : Option Addr} {c : Nat} {f : List Vec} (h : LstV w (.slice A f.length c) f) (i : Nat) (hi : i ≤ f.length) : ∃ A', (∀ W, (Instr.slice 32 (.slice A f.length c) none (some (.int .i64 (i : Int))) (some (.int .i64 (i : Int)))).run Try.prog W = .ok (.slice A' i i) W) ∧ LstV w (.slice A' i i) (f.take i) := by
  have hc : f.length ≤ c := by obtain ⟨_, _, hv, hc, _⟩ := h; cases hv; exact hc
  have hp := LstG.part vc_len h 0 i i (Nat.zero_le _) hi (Nat.le_refl _) (by omega)
  rw [List.drop_zero, Nat.sub_zero] at hp
  refine ⟨if i = 0 then A else A.map (fun a : Addr => a.add (0 * 4)), fun W => ?_, hp⟩
  rw [run_slice_hm W 32 A f.length c under_pv .i64 .i64 i i (by omega) (by omega) (by omega), elem_pv, Try.sizeOf23]
  rfl
/-- f[i:]. -/
theorem cut_from {w : World} {A : Option Addr} {c : Nat} {f : List Vec} (h : LstV w (.slice A f.length c) f) (i : Nat) (hi : i ≤ f.length) : ∃ A' c', (∀ W, (Instr.slice 32 (.slice A f.length c) (some (.int .i64 (i : Int))) none none).run Try.prog W = .ok (.slice A' (f.drop i).length c') W) ∧ LstV w (.slice A' (f.drop i).length c') (f.drop i) := by
  have hc : f.length ≤ c := by obtain ⟨_, _, hv, hc, _⟩ := h; cases hv; exact hc
  have hp := LstG.part vc_len h i f.length c hi (Nat.le_refl _) hc (Nat.le_refl _)
  rw [List.take_of_length_le (by rw [List.length_drop]; exact Nat.le_refl _)] at hp
  rw [List.length_drop]
  refine ⟨if c = i then A else A.map (fun a : Addr => a.add (i * 4)), c - i, fun W => ?_, hp⟩
  rw [run_slice_l W 32 A f.length c under_pv .i64 i (by omega) (by omega), elem_pv, Try.sizeOf23]
  rfl
set_option maxRecDepth 100000 in
set_option maxHeartbeats 8000000 in
theorem insert_any (v : Value) (l : List Vec) (x : Vec) (hl : l.length ≤ 900000) (w : World) (h : LstV w v l) :
    Calls Try.prog 21 #[v, .agg #[.int .i64 x.1, .int .i64 x.2.1, .int .i64 x.2.2.1, .int .i64 x.2.2.2]] w fun e w' => ∃ v', e = .returned (.tuple #[v', .bool (!cov l x)]) ∧ LstV w' v' (frV (l ++ [x])) ∧ RowKit.Below w.heap.size w w' := by
  obtain ⟨w0, hw0, hs, rx, b0⟩ := box_one w x 23
  have F := Lib.hid (front_any v l (by omega) w0 (h.below b0))
  have hz := b0.size
  have B0 := Lib.hid b0
  have RX := Lib.hid rx
  have hA := Lib.hid (frV_spec l).asc
  have hfl := Nat.le_trans (frV_len l) hl
  rw [← cov_front l x, frV_snoc l x]
  generalize frV l = f at F hA hfl ⊢
  obtain ⟨qc, hc⟩ : ∃ q, q = cov f x := ⟨_, rfl⟩
  rw [← hc]
  have HC := Lib.hid hc
  clear b0 rx h hc
  go_enter Try.func21, Try.ntmps21
  go_wp2_with fail
  clear hw0
  refine F.out.mono ?_
  rintro e w1 ⟨v1, rfl, l1, b1⟩
  have hh := l1
  obtain ⟨A, c, rfl, -⟩ := hh
  have L1 := Lib.hid l1
  have hz1 := b1.size
  have B1 := Lib.hid (B0.out.trans (b1.mono hz))
  have RX1 := Lib.hid ((b1.block w.heap.size (by omega)).trans RX.out)
  obtain ⟨p0, p1, p2, p3⟩ := box_at RX1.out
  have CV := Lib.hid (covers_any _ f x (by omega) w1 l1)
  rw [← HC.out] at CV
  clear l1 b1 RX B0 F
  rcases (by cases qc <;> simp : qc = true ∨ qc = false) with rfl | rfl
  · have N : Hid (insV f x = f) := if_pos HC.out.symm
    clear HC
    go_wp2_with fail
    refine CV.out.mono ?_
    rintro e w2 ⟨rfl, b2⟩
    have R : Hid (LstV w2 (.slice A f.length c) (insV f x) ∧ RowKit.Below w.heap.size w w2) := ⟨by rw [N.out]; exact L1.out.below b2, B1.out.trans (b2.mono B1.out.size)⟩
    clear b2 CV L1 B1 N RX1 p0 p1 p2 p3
    go_wp2_with fail
    go_ret2
    exact ⟨_, rfl, R.out⟩
  · go_wp2_with fail
    refine CV.out.mono ?_
    rintro e w2 ⟨rfl, b2⟩
    have L2 := Lib.hid (L1.out.below b2)
    have hz2 := b2.size
    have B2 := Lib.hid (B1.out.trans (b2.mono B1.out.size))
    have RX2 := Lib.hid ((b2.block w.heap.size (by omega)).trans RX1.out)
    obtain ⟨q0, q1, q2, q3⟩ := box_at RX2.out
    have BS := Lib.hid (bs_any _ f hA.out x (by omega) w2 L2.out)
    clear b2 CV L1 B1 RX1 p0 p1 p2 p3
    go_wp2_with fail
    refine BS.out.mono ?_
    rintro e w3 ⟨i, q, rfl, hi, hL, hH, b3⟩
    have IC := Lib.hid (ins_cut hL hH HC.out.symm)
    have hz3 := b3.size
    have L3 := Lib.hid (L2.out.below b3)
    have B3 := Lib.hid (B2.out.trans (b3.mono B2.out.size))
    have RX3 := Lib.hid ((b3.block w.heap.size (by omega)).trans RX2.out)
    obtain ⟨p0, p1, p2, p3⟩ := box_at RX3.out
    obtain ⟨A', S1, C1⟩ := cut_full L3.out i hi
    obtain ⟨A2, c2, S2, C2⟩ := cut_from L3.out i hi
    have D1 := Lib.hid C1
    have D2 := Lib.hid C2
    have htl : (f.take i).length ≤ 900000 := by rw [List.length_take]; omega
    have hdl : (f.drop i).length ≤ 900000 := by rw [List.length_drop]; omega
    clear b3 BS L2 B2 RX2 q0 q1 q2 q3 hL hH HC C1 C2 L3 hA
    generalize f.take i = g1 at D1 IC htl
    generalize f.drop i = g at S2 D2 IC hdl
    go_wp2_with fail
    go_region_law (first | (refine stepG_cut vc_len vc_one (by decide) Try.underlying32 info_pv rfl (by decide) _ rfl _ _ rfl w3.heap.size A' i g1 x rfl (D1.out.below ((RowKit.Below.refl _ _).alloc (Nat.le_refl _) _).drew) w3.heap.size _ (heap_alloc_new _ _) rfl rfl (by simp) (by omega) ?_
                            intro v4 w4 own4 b4
                            have O4 := Lib.hid own4
                            have B4 : Hid (RowKit.Below w3.heap.size w3 w4) := ((RowKit.Below.refl _ _).alloc (Nat.le_refl _) _).drew.trans (b4.mono (by simp))
                            clear own4 b4))
    all_goals
      clear D1 p0 p1 p2 p3 S1
      go_wp2_with fail
      clear S2
      go_loopw [9, 35] (fun u j wr => ∃ k : Nat, j = .int .i64 (k : Int) ∧ k ≤ g.length ∧ Hid (OwnV wr w3.heap.size u (g1 ++ x :: (g.take k).filter fun y => !dom x y)) ∧ Hid (RowKit.Below w3.heap.size w3 wr)) (fun _ j _ => g.length - (intOf j).toNat)
      case atStart => exact ⟨0, rfl, Nat.zero_le _, O4, B4⟩
      case round =>
        clear O4 B4
        obtain ⟨k, rfl, hk, HO, HB⟩ := hrel
        by_cases hlt : k < g.length
        · obtain ⟨y, hy⟩ := at_lt hlt
          obtain ⟨b, o, rfl, hb, m0, m1, m2, m3⟩ := v_at (D2.out.below HB.out) hy
          have gk : (k : Int) < (g.length : Int) := by omega
          have N := Lib.hid (fil_next hy fun y => !dom x y)
          obtain ⟨w5, hw5, hs5, ry, b5⟩ := box_one wr y 23
          have hz5 := HB.out.size
          have RY := Lib.hid ry
          obtain ⟨n0, n1, n2, n3⟩ := box_at ry
          obtain ⟨p0, p1, p2, p3⟩ := box_at ((b5.block w.heap.size (by omega)).trans ((HB.out.block w.heap.size (by omega)).trans RX3.out))
          have DM := Lib.hid (dom_any x y w5)
          have hll : (g1 ++ x :: (g.take k).filter fun y => !dom x y).length ≤ 1900000 := by
            have := List.length_filter_le (fun y => !dom x y) (g.take k)
            rw [List.length_take] at this
            rw [List.length_append, List.length_cons]
            omega
          have O5 := Lib.hid (HO.out.below b5)
          have B5 := Lib.hid (HB.out.trans (b5.mono hz5))
          clear hy ry b5 HO HB
          cases hd : dom x y
          · have E : Hid ((g1 ++ x :: (g.take k).filter fun y => !dom x y) ++ [y] = g1 ++ x :: (g.take (k + 1)).filter fun y => !dom x y) := by
              show _ = _
              rw [N.out, if_pos (by rw [hd]; rfl), List.append_assoc]
              rfl
            rw [hd] at DM
            generalize g1 ++ x :: (g.take k).filter (fun y => !dom x y) = acc at O5 E hll
            clear N hd
            go_wp2_with fail
            refine DM.out.mono ?_
            rintro e w6 ⟨rfl, b6⟩
            obtain ⟨r0, r1, r2, r3⟩ := box_at ((b6.block wr.heap.size (by omega)).trans RY.out)
            have O6 := Lib.hid (O5.out.below b6)
            have B6 := Lib.hid (B5.out.trans (b6.mono B5.out.size))
            have hz6 := B6.out.size
            clear b6 DM O5 B5 n0 n1 n2 n3 p0 p1 p2 p3
            go_wp2_with (at_builtin; refine appG_one vc_len vc_one (by decide) Try.underlying32 info_pv rfl (by decide) _ rfl (.tmp 43) (.tmp 45) rfl w3.heap.size _ acc y rfl (World.ownsRow.alloc O6.out _) w6.heap.size _ (heap_alloc_new _ _) rfl rfl (by simp; omega) (by omega) ?_; intro v7 w7 own7 b7 gr7 wh7; have O7 := Lib.hid own7; have B7 := Lib.hid ((B6.out.alloc hz6 _).trans b7); clear own7 b7 gr7 wh7)
            have O8 : Hid (OwnV w7 w3.heap.size v7 (g1 ++ x :: (g.take (k + 1)).filter fun y => !dom x y)) := by
              show OwnV _ _ _ _
              rw [← E.out]
              exact O7.out
            clear O7 O6 B6 E r0 r1 r2 r3
            go_wp2_with fail
            go_roundw
            case rel => exact ⟨k + 1, by go_num, by omega, O8, B7⟩
            case measure => simp [intOf]; omega
          · have E : Hid ((g1 ++ x :: (g.take k).filter fun y => !dom x y) = g1 ++ x :: (g.take (k + 1)).filter fun y => !dom x y) := by
              show _ = _
              rw [N.out, if_neg (by rw [hd]; simp)]
            rw [hd] at DM
            clear N hd
            go_wp2_with fail
            refine DM.out.mono ?_
            rintro e w6 ⟨rfl, b6⟩
            have O6 : Hid (OwnV w6 w3.heap.size u9 (g1 ++ x :: (g.take (k + 1)).filter fun y => !dom x y)) := by
              show OwnV _ _ _ _
              rw [← E.out]
              exact O5.out.below b6
            have B6 := Lib.hid (B5.out.trans (b6.mono B5.out.size))
            clear b6 DM O5 B5 n0 n1 n2 n3 p0 p1 p2 p3 E
            go_wp2_with fail
            go_roundw
            case rel => exact ⟨k + 1, by go_num, by omega, O6, B6⟩
            case measure => simp [intOf]; omega
        · have d : decide (k < g.length) = false := by rw [decide_eq_false_iff_not]; exact hlt
          have R : Hid (LstV wr u9 (insV f x) ∧ RowKit.Below w.heap.size w wr) := by
            have := HO.out
            rw [List.take_of_length_le (by omega), ← IC.out] at this
            exact ⟨OwnG.lst this, B3.out.trans (HB.out.mono B3.out.size)⟩
          clear hlt HO HB
          go_wp2_with fail
          go_ret2
          exact ⟨_, rfl, R.out⟩
end Go.Proofs.Ytokcpgpchiikgaa
