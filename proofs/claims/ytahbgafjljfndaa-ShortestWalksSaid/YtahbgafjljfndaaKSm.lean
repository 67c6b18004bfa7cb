/-
  The program's smallestNodes: the nodes of a least way, each time the least one that keeps the cost; nothing that existed before the call has changed behind it. Condition: a checked graph and its least costs to the end.
-/
import Derived.Test.YtahbgafjljfndaaKRev
import Derived.Lib.QuietBelow
namespace Go.Proofs.Ytahbgafjljfndaa
open Go.RowKit Go.Sort

theorem regrown_below {w0 wr w4 : World} (h : RowKit.Below w0.heap.size w0 wr) (h4 : ∃ p : Regrown, w4 = grow (redrawn wr p.d) p.os) : RowKit.Below w0.heap.size w0 w4 := by
  obtain ⟨p, rfl⟩ := h4
  exact h.trans ((below_regrown wr p.d p.os).mono h.size)
theorem eql_cost (a b : Ct) (q : Bool) (h : (decide (a = b)) = q) (W : World) : (binOp BinOp.eql 58 (.agg #[.int .i64 a.1, .int .i64 a.2]) (.agg #[.int .i64 b.1, .int .i64 b.2])).run Try.prog W = .ok (.bool q) W := by
  subst h
  obtain ⟨a1, a2⟩ := a
  obtain ⟨b1, b2⟩ := b
  by_cases h1 : a1 = b1
  · by_cases h2 : a2 = b2
    · subst h1 h2; go_simp
    · subst h1
      have : (a2 == b2) = false := beq_false h2
      go_simp
  · have : (a1 == b1) = false := beq_false h1
    go_simp
theorem step_yes {lab : List Ct} {a f : Nat} {e : Ed} (h : plusC (gl lab e.2.1) e.2.2 = gl lab a) : stepN lab a f e = min f e.2.1 := by unfold stepN; rw [if_pos h]
theorem step_not {lab : List Ct} {a f : Nat} {e : Ed} (h : plusC (gl lab e.2.1) e.2.2 ≠ gl lab a) : stepN lab a f e = f := by unfold stepN; rw [if_neg h]
theorem fold_take {lab : List Ct} {a : Nat} {l : List Ed} {q : Nat} {e : Ed} (h : l[q]? = some e) : (l.take (q + 1)).foldl (stepN lab a) 64 = stepN lab a ((l.take q).foldl (stepN lab a) 64) e := by
  rw [take_at l q e h, List.foldl_append]; rfl
theorem Lc.bnd {D : List Ed} {n b : Nat} {lab : List Ct} (h : Lc D n b lab) {i : Nat} (hi : i < n) : 0 ≤ (gl lab i).1 ∧ (gl lab i).1 ≤ 68719476736 ∧ 0 ≤ (gl lab i).2 ∧ (gl lab i).2 ≤ 128 := by
  rcases h.2 i hi with ⟨e, _⟩ | ⟨c, e, h1, _⟩
  · rw [e]; unfold farC; simp
  · rw [e]
    refine ⟨?_, ?_, ?_, ?_⟩ <;> simp only <;> omega
set_option maxRecDepth 100000 in
set_option maxHeartbeats 8000000 in
theorem smallest_any (n s b mb c0 : Nat) (V : Int → Value) (L : List Ed) (lab : List Ct) (u : Value) (hn : n ≤ 64) (hb : b < n) (hs : s < n) (hD : L.length ≤ 4096) (hi : Inn L n) (hw : ∀ e ∈ L, e.2.2 ≤ 1073741824) (hl : Lc (turnL L) n b lab) (hm0 : Mn 128 L b s c0) (ha : gl lab s = (((c0 / 128 : Nat) : Int), ((c0 % 128 : Nat) : Int))) (hd : (costL n L b).getD s (-1) = (c0 : Int)) (hc : c0 / 128 < 68719476736)
    (w : World) (hm : NbrL w mb V L) (hu : LstC w u lab) :
    Calls Try.prog 30 #[.map (some mb), u, .int .i64 (s : Int)] w fun e w' => ∃ v, e = .returned v ∧ OwnI w' w.heap.size v (pathN L lab s (c0 % 128 + 1)) ∧ Below w.heap.size w w' := by
  have hlab := hl.1
  have WAY := Lib.hid (hl.path hn hb hi hs hm0 ha hd hc)
  have BND := Lib.hid (fun i (hi : i < n) => hl.bnd hi)
  have HM := Lib.hid hm
  have HI := Lib.hid hi
  have HW := Lib.hid hw
  obtain ⟨A, c, rfl, -, -, -⟩ := id hu
  obtain ⟨bu, ou, rfl, hbu, -, -⟩ := two_at hu (at_gl (lab := lab) (i := s) (by omega))
  have CU : Hid (∀ W, Below w.heap.size w W → ∀ i, i < n → W.cell? ⟨bu, ou + i * 2, none⟩ = some (.int .i64 (gl lab i).1) ∧ W.cell? ⟨bu, ou + i * 2 + 1, none⟩ = some (.int .i64 (gl lab i).2)) := by
    intro W hW i hi'
    obtain ⟨b1, o1, e1, _, g1, g2⟩ := two_at (hu.below hW) (at_gl (lab := lab) (i := i) (by omega))
    cases e1
    exact ⟨g1, g2⟩
  have OS : Hid (OwnI (w.alloc (.cells #[.int .i64 (s : Int)] 3 (0, 0))) w.heap.size (.slice (some ⟨w.heap.size, 0, none⟩) 1 1) (pathN L lab s 1)) := ownI_made w (Nat.le_refl _) [(s : Int)] (by unfold maxLen; simp)
  obtain ⟨K, hK⟩ : ∃ K, c0 % 128 = K := ⟨_, rfl⟩
  rw [hK] at WAY ⊢
  have hK2 : K < 128 := by omega
  rw [hlab]
  clear hl hm0 ha hd hc hm hu hi hw hK
  go_enter Try.func30, Try.ntmps30
  go_wp2_with fail
  go_loopw [7, 8] (fun v at' wr => ∃ j : Nat, at' = .int .i64 ((nd L lab s j : Nat) : Int) ∧ j ≤ K ∧ Hid (lenV v = j + 1) ∧ Hid (OwnI wr w.heap.size v (pathN L lab s (j + 1))) ∧ Hid (Below w.heap.size w wr)) (fun v _ _ => K + 1 - lenV v)
  case atStart => exact ⟨0, rfl, Nat.zero_le _, Lib.hid rfl, OS, Lib.hid ((Below.refl _ _).alloc (Nat.le_refl _) _)⟩
  case round =>
    clear OS
    obtain ⟨j, rfl, hj, HV, HO, HB⟩ := hrel
    obtain ⟨haN, x, hx, hga, -, -, hxj⟩ := WAY.out j hj
    have NX : Hid (nd L lab s (j + 1) = nxt L lab (nd L lab s j)) := rfl
    obtain ⟨q0, q1⟩ := CU.out wr HB.out _ haN
    generalize nd L lab s j = a at haN hx hga NX q0 q1 ⊢
    have ga : (a : Int) < (n : Int) := by omega
    have q1' := q1
    rw [hga] at q1'
    simp only at q1'
    by_cases hlt : j < K
    · have gx : (0 : Int) < ((x % 128 : Nat) : Int) := by omega
      obtain ⟨y, hy⟩ : ∃ y, x % 128 = y := ⟨_, rfl⟩
      rw [hy] at q1' gx
      have LKR := (HM.out.below HB.out).look a (by omega)
      obtain ⟨A2, c2, hV, -, -, -⟩ := HM.out.2 a
      rw [hV] at LKR
      have HL : Hid (∀ wy, Below w.heap.size w wy → LstD wy (.slice A2 (outs L a).length c2) (outs L a)) := by
        intro wy hb
        have := (HM.out.2 a).below hb
        rw [hV] at this
        exact this
      have hol := Nat.le_trans (outs_len L a) hD
      clear hV hx hga hxj hy q1
      go_wp2_with fail
      clear LKR q0 q1' gx
      go_loopw [9, 25] (fun f i wy => ∃ q : Nat, i = .int .i64 q ∧ q ≤ (outs L a).length ∧ f = .int .i64 ((((outs L a).take q).foldl (stepN lab a) 64 : Nat) : Int) ∧ Hid (OwnI wy w.heap.size u7 (pathN L lab s (j + 1))) ∧ Hid (Below w.heap.size w wy)) (fun _ i _ => (outs L a).length - (intOf i).toNat)
      case atStart => exact ⟨0, rfl, Nat.zero_le _, rfl, HO, HB⟩
      case round =>
        clear HO HB
        obtain ⟨q, rfl, hq, rfl, HO, HB⟩ := hrel
        by_cases hlt2 : q < (outs L a).length
        · obtain ⟨e, he⟩ := at_lt hlt2
          obtain ⟨heD, hev⟩ := outs_from he
          obtain ⟨s', t, z⟩ := e
          simp only at hev
          obtain ⟨b0, o, rfl, hb0, r0, r1, r2⟩ := three_at de_len (HL.out wr HB.out) he rfl
          simp only at r0 r1 r2
          have hin := HI.out _ heD
          have hwt := HW.out _ heD
          simp only at hin hwt
          have gq : (q : Int) < ((outs L a).length : Int) := by omega
          have gt : (t : Int) < (n : Int) := by omega
          have FT := Lib.hid (fold_take (lab := lab) (a := a) he)
          obtain ⟨w7, hw7⟩ : ∃ W, wr.alloc (.cells #[.int .i64 (s' : Int), .int .i64 (t : Int), .int .i64 (z : Int)] 47 (0, 0)) = W := ⟨_, rfl⟩
          have b7 : Below wr.heap.size wr w7 := by rw [← hw7]; exact (Below.refl _ _).alloc (Nat.le_refl _) _
          have c7 : w7.heap[wr.heap.size]? = some (.cells #[.int .i64 (s' : Int), .int .i64 (t : Int), .int .i64 (z : Int)] 47 (0, 0)) := by rw [← hw7]; exact heap_alloc_new _ _
          have O7 := Lib.hid (HO.out.below b7)
          have B7 : Hid (Below w.heap.size w w7) := HB.out.trans (b7.mono HB.out.size)
          have C7 := Lib.hid c7
          have p0 : w7.cell? ⟨wr.heap.size, 0, none⟩ = some (.int .i64 (s' : Int)) := by rw [cell_of_row _ _ 0 _ _ _ c7]; rfl
          have p1 : w7.cell? ⟨wr.heap.size, 1, none⟩ = some (.int .i64 (t : Int)) := by rw [cell_of_row _ _ 1 _ _ _ c7]; rfl
          have p2 : w7.cell? ⟨wr.heap.size, 2, none⟩ = some (.int .i64 (z : Int)) := by rw [cell_of_row _ _ 2 _ _ _ c7]; rfl
          obtain ⟨x0, x1⟩ := CU.out w7 B7.out t hin.2
          obtain ⟨y0, y1⟩ := CU.out w7 B7.out a haN
          have P0 := fun d os => cell_regrown p0 d os
          have P1 := fun d os => cell_regrown p1 d os
          have P2 := fun d os => cell_regrown p2 d os
          have X0 := fun d os => cell_regrown x0 d os
          have X1 := fun d os => cell_regrown x1 d os
          have Y0 := fun d os => cell_regrown y0 d os
          have Y1 := fun d os => cell_regrown y1 d os
          obtain ⟨h1, h2, h3, h4⟩ := BND.out t hin.2
          have PL := Lib.hid (fun d os => Calls.regrown_of (w := w7) (d := d) (os := os) (plus_any (gl lab t) (s' : Int) (t : Int) z (by omega) (by omega) (by omega) (by omega) (by omega) _))
          have HZ := Lib.hid (lt_of_heap c7)
          clear he heD b7 c7 HO HB p0 p1 p2 x0 x1 y0 y1 hev h1 h2 h3 h4 hwt
          obtain ⟨f, hf⟩ : ∃ f : Nat, ((outs L a).take q).foldl (stepN lab a) 64 = f := ⟨_, rfl⟩
          rw [hf] at FT ⊢
          cases hq : decide (plusC (gl lab t) z = gl lab a) with
          | true =>
            have EQ := eql_cost (plusC (gl lab t) z) (gl lab a) true hq
            have F2 := Lib.hid (FT.out.trans (step_yes (e := (s', t, z)) (of_decide_eq_true hq)))
            simp only at F2
            clear FT hq hf
            go_wp2_with fail
            clear r0 r1 r2
            refine wp_region_quiet_below (by kernel_rfl) (by kernel_rfl) ?_
            repeat (go_big_quiet_step (with_reducible exact PL.out _ _))
            refine wpQuiet_nil ?_
            intro w4 hw4
            have B4 := Lib.hid (regrown_below B7.out hw4)
            have b74 : Below w7.heap.size w7 w4 := regrown_below (Below.refl _ _) hw4
            have O4 := Lib.hid (O7.out.below b74)
            have n1 : w4.cell? ⟨wr.heap.size, 1, none⟩ = some (.int .i64 (t : Int)) := by rw [cell_of_row _ _ 1 _ _ _ ((b74.block _ HZ.out).trans C7.out)]; rfl
            clear hw4 P0 P1 P2 X0 X1 Y0 Y1 PL EQ b74 B7 O7 C7
            by_cases hft : t < f
            · have gtf : (t : Int) < (f : Int) := by omega
              rw [Nat.min_eq_right (by omega)] at F2
              clear hft
              go_wp2_with fail
              go_roundw
              case rel => exact ⟨q + 1, by go_num, by omega, by rw [F2.out], O4, B4⟩
              case measure => simp [intOf]; omega
            · have gtf : decide ((t : Int) < (f : Int)) = false := by rw [decide_eq_false_iff_not]; omega
              rw [Nat.min_eq_left (by omega)] at F2
              have HFT := Lib.hid hft
              clear hft
              go_wp2_with fail
              go_roundw
              case rel => exact ⟨q + 1, by go_num, by omega, by rw [F2.out]; (try rw [if_neg HFT.out]), O4, B4⟩
              case measure => simp [intOf]; omega
          | false =>
            have EQ := eql_cost (plusC (gl lab t) z) (gl lab a) false hq
            have F2 := Lib.hid (FT.out.trans (step_not (e := (s', t, z)) (of_decide_eq_false hq)))
            clear FT hq hf
            go_wp2_with fail
            clear r0 r1 r2
            refine wp_region_quiet_below (by kernel_rfl) (by kernel_rfl) ?_
            repeat (go_big_quiet_step (with_reducible exact PL.out _ _))
            refine wpQuiet_nil ?_
            intro w4 hw4
            have B4 := Lib.hid (regrown_below B7.out hw4)
            have b74 : Below w7.heap.size w7 w4 := regrown_below (Below.refl _ _) hw4
            have O4 := Lib.hid (O7.out.below b74)
            clear hw4 P0 P1 P2 X0 X1 Y0 Y1 PL EQ b74 B7 O7 C7
            go_wp2_with fail
            go_roundw
            case rel => exact ⟨q + 1, by go_num, by omega, by rw [F2.out], O4, B4⟩
            case measure => simp [intOf]; omega
        · have d0 : decide (q < (outs L a).length) = false := by rw [decide_eq_false_iff_not]; exact hlt2
          have E : Hid (((outs L a).take q).foldl (stepN lab a) 64 = nd L lab s (j + 1)) := by
            show _ = _
            rw [NX.out, List.take_of_length_le (by omega)]
            rfl
          rw [E.out]
          have hz := HB.out.size
          have PN := Lib.hid (pathN_succ L lab s (j + 1))
          have pl := pathN_len L lab s (j + 1)
          have PLN := Lib.hid pl
          clear hlt2 E NX pl
          go_wp2_with (at_builtin; refine app_int _ rfl (.tmp 46) (.tmp 48) rfl w.heap.size _ (pathN L lab s (j + 1)) _ rfl (World.ownsRow.alloc HO.out _) wr.heap.size _ (heap_alloc_new _ _) rfl rfl (by simp; omega) (by rw [PLN.out]; omega) ?_; intro v1 w2 own1 b1; have O2 := Lib.hid own1; have B2 : Hid (Below w.heap.size w w2) := (HB.out.alloc hz _).trans b1; clear own1 b1)
          have O3 : Hid (OwnI w2 w.heap.size v1 (pathN L lab s (j + 1 + 1))) := by rw [PN.out]; exact O2.out
          have V3 : Hid (lenV v1 = j + 1 + 1) := by
            obtain ⟨A3, c3, rfl, -⟩ := own_shape O3.out
            rw [pathN_len]
            rfl
          clear O2 PN PLN HO HB
          go_wp2_with fail
          go_roundw
          case rel => exact ⟨j + 1, rfl, by omega, V3, O3, B2⟩
          case measure => rw [V3.out, HV.out]; omega
    · have hy : x % 128 = 0 := by omega
      rw [hy] at q1'
      have E : Hid (OwnI wr w.heap.size u7 (pathN L lab s (K + 1))) := by
        have := HO.out
        rw [show j = K by omega] at this
        exact this
      clear hx hga hxj hy q1 HO hlt
      go_wp2_with fail
      go_ret
      exact ⟨_, rfl, E.out, HB.out⟩
end Go.Proofs.Ytahbgafjljfndaa
