/-
  The program's leastCosts: the least costs from a node; nothing that existed before the call has changed behind it. Condition: a checked graph.
-/
import Derived.Test.YtahbgafjljfndaaKLab
namespace Go.Proofs.Ytahbgafjljfndaa
open Go.RowKit

theorem outs_from {D : List Ed} {v j : Nat} {e : Ed} (h : (outs D v)[j]? = some e) : e ∈ D ∧ e.1 = v := mem_outs.1 (List.mem_iff_getElem?.2 ⟨j, h⟩)
/-- The loop's state: the box, whether there is a node. -/
def LcR (D : List Ed) (n b base G B P : Nat) (w : World) (p q : Value) (wr : World) : Prop :=
  ∃ lab l N pb x, p = .pointer (some ⟨pb, 0, none⟩) ∧ Rs wr base G B P n lab l N ∧ Vis wr pb x ∧ Below w.heap.size w wr ∧ ((q = .bool true ∧ Top D n b lab l N x) ∨ (q = .bool false ∧ ∃ X K, Dj D n b lab [] X [] N K))
theorem not_lt_edge : ¬ LT 47 := by rintro ((h | h) | h) <;> cases h
/-- One more to do. -/
def tick : Value → Nat | .bool true => 1 | _ => 0
set_option maxRecDepth 100000 in
set_option maxHeartbeats 8000000 in
theorem least_any (n b mb : Nat) (V : Int → Value) (D : List Ed) (hn : n ≤ 64) (hb : b < n) (hD : D.length ≤ 4096) (hi : Inn D n) (hw : ∀ e ∈ D, e.2.2 ≤ 1073741824) (w : World) (hm : NbrL w mb V D) :
    Calls Try.prog 28 #[.int .i64 (n : Int), .map (some mb), .int .i64 (b : Int)] w fun e w' => ∃ u lab, e = .returned u ∧ OwnC w' w.heap.size u lab ∧ Lc D n b lab ∧ Below w.heap.size w w' := by
  have HM := Lib.hid hm
  have HI := Lib.hid hi
  have HW := Lib.hid hw
  clear hm hi hw
  have MK := fun W => mkG_run (enc := cc) (k := 2) cc_len (by decide) Try.underlying54 info_ct ((0, 0) : Ct) rfl n (by omega) (by omega) (n : Int) rfl W
  obtain ⟨w1, hw1⟩ : ∃ x, w.alloc (.cells (fl cc (List.replicate n ((0, 0) : Ct))).toArray 58 (0, 0)) = x := ⟨_, rfl⟩
  have O1 : Hid (OwnC w1 w.heap.size (.slice (some ⟨w.heap.size, 0, none⟩) n n) (farRow n 0)) := by
    have := ownG_made (enc := cc) (T := 58) cc_len w (Nat.le_refl _) (List.replicate n ((0, 0) : Ct)) (by rw [List.length_replicate]; unfold maxLen; omega)
    rw [List.length_replicate, hw1] at this
    rw [farRow_zero]
    exact this
  have B1 : Hid (Below w.heap.size w w1) := by rw [← hw1]; exact (Below.refl _ _).alloc (Nat.le_refl _) _
  have z1 : w1.heap.size = w.heap.size + 1 := by rw [← hw1]; simp
  have Z1 := Lib.hid z1
  clear z1
  go_enter Try.func28, Try.ntmps28
  go_wp2_with fail
  clear MK hw1
  go_loopw [19] (fun i wr => ∃ k : Nat, i = .int .i64 k ∧ k ≤ n ∧ Hid (OwnC wr w.heap.size (.slice (some ⟨w.heap.size, 0, none⟩) n n) (farRow n k)) ∧ Hid (wr.heap[w1.heap.size]? = some (.cells #[.slice (some ⟨w.heap.size, 0, none⟩) n n] 54 (0, 0))) ∧ Hid (Below w.heap.size w wr)) (fun i _ => n - (intOf i).toNat)
  case atStart => exact ⟨0, rfl, Nat.zero_le _, Lib.hid (O1.out.below ((Below.refl _ _).alloc (Nat.le_refl _) _)), Lib.hid (heap_alloc_new _ _), Lib.hid (B1.out.alloc B1.out.size _)⟩
  case round =>
    obtain ⟨k, rfl, hk, HO, HX, HB⟩ := hrel
    have x0 : wr.cell? ⟨w1.heap.size, 0, none⟩ = some (.slice (some ⟨w.heap.size, 0, none⟩) n n) := by rw [cell_of_row _ _ 0 _ _ _ HX.out]; rfl
    by_cases hlt : k < n
    · have gk : (k : Int) < (n : Int) := by omega
      obtain ⟨a1, -, a3, -⟩ := OwnC.atn (farRow_len hk) HO.out (farRow_at hlt)
      have O2 : Hid (OwnC (wr.setCell ⟨w.heap.size, k * 2, none⟩ (.int .i64 68719476736)) w.heap.size (.slice (some ⟨w.heap.size, 0, none⟩) n n) (farRow n (k + 1))) := by
        show OwnC _ _ _ _
        rw [← farRow_set hlt]
        exact OwnC.put1n (farRow_len hk) HO.out (farRow_at hlt) 68719476736
      have X2 : Hid ((wr.setCell ⟨w.heap.size, k * 2, none⟩ (.int .i64 68719476736)).heap[w1.heap.size]? = some (.cells #[.slice (some ⟨w.heap.size, 0, none⟩) n n] 54 (0, 0))) := (RowKit.Below.heap_setCell _ _ _ _ (by have := Z1.out; show w1.heap.size ≠ w.heap.size; omega)).trans HX.out
      have B2 : Hid (Below w.heap.size w (wr.setCell ⟨w.heap.size, k * 2, none⟩ (.int .i64 68719476736))) := HB.out.setCell (Nat.le_refl _) _
      clear HO HX HB O1 B1
      go_wp2_with fail
      go_roundw
      case rel => exact ⟨k + 1, by go_num, by omega, O2, X2, B2⟩
      case measure => simp [intOf]; omega
    · have d : decide (k < n) = false := by rw [decide_eq_false_iff_not]; exact hlt
      have hkn : k = n := by omega
      have O3 : Hid (OwnC wr w.heap.size (.slice (some ⟨w.heap.size, 0, none⟩) n n) (List.replicate n farC)) := by
        have := HO.out
        rw [hkn, farRow_all] at this
        exact this
      have HX1 : Hid (wr.heap[w.heap.size + 1]? = some (.cells #[.slice (some ⟨w.heap.size, 0, none⟩) n n] 54 (0, 0))) := by
        have := HX.out
        rw [Z1.out] at this
        exact this
      have zz := Z1.out
      clear hlt HO O1 B1 HX Z1
      rw [zz] at x0 ⊢
      clear zz
      go_wp2_with fail
      refine (new_any fun_cost wr).mono ?_
      rintro e w3 ⟨rfl, s3, b3⟩
      have R3 : Hid (Rs (w3.alloc (.cells #[.pointer (some ⟨wr.heap.size, 0, none⟩)] 63 (0, 0))) w.heap.size w.heap.size wr.heap.size w3.heap.size n (List.replicate n farC) [] 0) :=
        ⟨List.length_replicate, (O3.out.below b3).below ((Below.refl _ _).alloc (Nat.le_refl _) _), (Go.heap_alloc_old w3 _ (Nat.lt_of_lt_of_le (lt_of_heap HX1.out) b3.size)).trans ((b3.block _ (lt_of_heap HX1.out)).trans HX1.out), heap_alloc_new _ _, s3.below ((Below.refl _ _).alloc (Nat.le_refl _) _)⟩
      have B4 : Hid (Below w.heap.size w (w3.alloc (.cells #[.pointer (some ⟨wr.heap.size, 0, none⟩)] 63 (0, 0)))) := (HB.out.trans (b3.mono HB.out.size)).alloc (Nat.le_trans HB.out.size b3.size) _
      have HQB : Hid (w.heap.size ≤ wr.heap.size) := HB.out.size
      clear s3 b3 O3 HX1 HB x0
      go_wp2_with fail
      refine (reach_yes w.heap.size w.heap.size wr.heap.size w3.heap.size n (Nat.le_refl _) HQB.out (List.replicate n farC) [] 0 b hb ((0 : Int), (0 : Int)) (by rw [gl_far]; exact first_less) (by simp) (by omega) _ B4.out.size R3.out).mono ?_
      rintro e w5 ⟨rfl, r5, f5⟩
      have R5 := Lib.hid r5
      have B5 : Hid (Below w.heap.size w w5) := B4.out.trans (f5.below B4.out.size)
      generalize hPB : w3.heap.size = PB at *
      generalize hQB : wr.heap.size = QB at *
      clear hPB hQB R3 B4 r5 f5
      obtain ⟨g0, g1, -⟩ := R5.out.cells hb
      have PLN : (pushH lCost [] 0 ((b : Int), (0 : Int), (0 : Int))).length = 1 := by rw [push_len]; rfl
      go_wp2_with fail
      refine (pop_all fun_cost QB 1 _ (by rw [PLN]; omega) w5 R5.out.st).mono ?_
      rintro e w6 (⟨a, ha, rfl, s6, f6⟩ | ⟨hnil, rfl, s6, f6⟩)
      rotate_left
      · rw [hnil] at PLN; simp at PLN
      have S6 : Hid (Rs w6 w.heap.size w.heap.size QB PB n ((List.replicate n farC).set b (0, 0)) (popH lCost (pushH lCost [] 0 ((b : Int), (0 : Int), (0 : Int)))) 1) := R5.out.push s6 f6
      have B6 : Hid (Below w.heap.size w w6) := B5.out.trans ((f6.below (by have := R5.out.st.lt; omega)).mono HQB.out)
      have T6 : Hid (Top D n b ((List.replicate n farC).set b (0, 0)) (popH lCost (pushH lCost [] 0 ((b : Int), (0 : Int), (0 : Int)))) 1 a.1) := by
        have dj := Dj.start D hb
        rw [← first_queue] at dj
        exact pop_top dj (first_heap _) ha
      clear s6 f6 ha PLN R5 B5 g0 g1
      go_wp2_with fail
      go_loopw [11, 12] (fun p q wx => Hid (LcR D n b w.heap.size w.heap.size QB PB w p q wx)) (fun _ q wx => tick q + lenW wx QB)
      case atStart => exact ⟨_, _, _, w6.heap.size, a.1, rfl, S6.out.below ((Below.refl _ _).alloc (Nat.le_refl _) _), heap_alloc_new _ _, B6.out.alloc B6.out.size _, .inl ⟨rfl, T6.out⟩⟩
      case round =>
        clear S6 B6 T6
        obtain ⟨lab, l, N, pb, x, rfl, rs, vis, bel, (⟨rfl, top⟩ | ⟨rfl, X, K, dj⟩)⟩ := hrel.out
        · have M0 := Lib.hid rs.lenW
          obtain ⟨hp, Q, X, K, dj, perm, mn⟩ := top
          have low := dj.low hD
          have plen := perm.length_eq
          simp at plen low
          obtain ⟨v, k, W, rfl, hv, hWb, hk, (⟨hne, dj2⟩ | ⟨heq, hvX, hkl, dj2⟩)⟩ := dj.pop hn perm mn
          · have RS := Lib.hid rs
            have VIS := Lib.hid vis
            have BEL := Lib.hid bel
            have DJ := Lib.hid dj2
            have HP := Lib.hid hp
            have LB : Hid (l.length ≤ 4097 ∧ N ≤ 4097) := by constructor <;> omega
            have MEAS : Hid (l.length + (4098 - N) ≤ l.length + (4098 - N)) := Nat.le_refl _
            obtain ⟨g0, g1, g2, g3, -⟩ := rs.cells hv
            obtain ⟨n0, n1, n2, -⟩ := vis.cells
            have NQ := neq_cost ((W : Int), (k : Int)) (gl lab v) true (by rw [decide_eq_false (fun e => hne e.symm)]; rfl)
            have gv : (v : Int) < (n : Int) := by omega
            have vb := lt_of_heap vis
            have bb := lt_of_heap rs.box
            clear hrel rs vis bel dj dj2 hp perm mn hne low plen
            go_wp2_with fail
            go_quiet (fail)
            have RS1 : Hid (Rs (wr.drewN nq) w.heap.size w.heap.size QB PB n lab l N) := RS.out.below (below_drewN (Below.refl _ _) nq)
            have VIS1 : Hid (Vis (wr.drewN nq) pb ((v : Int), (W : Int), (k : Int))) := VIS.out.below (below_drewN (Below.refl _ _) nq)
            have BEL1 : Hid (Below w.heap.size w (wr.drewN nq)) := below_drewN BEL.out nq
            clear RS VIS BEL g0 g1 g2 g3 n0 n1 n2 NQ vb bb
            generalize wr.drewN nq = wx at RS1 VIS1 BEL1 ⊢
            obtain ⟨n0, n1, n2, -⟩ := VIS1.out.cells
            have q9 := ((RS1.out.below ((Below.refl _ _).alloc (Nat.le_refl _) (.cells #[.int .i64 (v : Int), .int .i64 (W : Int), .int .i64 (k : Int)] 66 (0, 0)))).cells hb).2.1
            have ll := LB.out
            go_wp2_with fail
            refine (pop_all fun_cost QB N l (by omega) _ ((RS1.out.below ((Below.refl _ _).alloc (Nat.le_refl _) _)).st)).mono ?_
            rintro e w6 (⟨a, ha, rfl, s6, f6⟩ | ⟨hnil, rfl, s6, f6⟩)
            · have NX := Lib.hid (RS1.out.next ((v : Int), (W : Int), (k : Int)) a.1 s6 f6)
              have TP := Lib.hid (pop_top DJ.out HP.out ha)
              have PL := pop_len lCost l
              have hlt2 := (List.getElem?_eq_some_iff.1 ha).1
              obtain ⟨e0, e1, e2, e3, e4, e5⟩ := NX.out.2.2.cells
              have b6 : Below w.heap.size w (((w6.setCell ⟨wx.heap.size, 0, none⟩ (.int .i64 a.1.1)).setCell ⟨wx.heap.size, 1, none⟩ (.int .i64 a.1.2.1)).setCell ⟨wx.heap.size, 2, none⟩ (.int .i64 a.1.2.2)) :=
                (((BEL1.out.trans (((Below.refl _ _).alloc BEL1.out.size _).trans (f6.below (by have := RS1.out.st.lt; simp; omega) |>.mono HQB.out))).setCell BEL1.out.size _).setCell BEL1.out.size _).setCell BEL1.out.size _
              have B6 := Lib.hid b6
              have MM : Hid (lenW (((w6.setCell ⟨wx.heap.size, 0, none⟩ (.int .i64 a.1.1)).setCell ⟨wx.heap.size, 1, none⟩ (.int .i64 a.1.2.1)).setCell ⟨wx.heap.size, 2, none⟩ (.int .i64 a.1.2.2)) QB < (l.length + (4098 - N))) := by
                show _ < _
                rw [NX.out.1.lenW, PL]
                have := MEAS.out
                omega
              clear s6 f6 ha hlt2 PL b6 n0 n1 n2 ll q9
              go_wp2_with fail
              go_roundw
              case rel => exact ⟨_, _, _, _, _, rfl, NX.out.1, NX.out.2.1, B6.out, .inl ⟨rfl, TP.out⟩⟩
              case measure => rw [M0.out]; have := MM.out; simp only [tick]; omega
            · have NX := Lib.hid (RS1.out.next ((v : Int), (W : Int), (k : Int)) (0, 0, 0) s6 f6)
              have DJ2 : Hid (Dj D n b lab [] X [] N (128 * (W : Int) + (k : Int))) := by have := DJ.out; rw [hnil] at this; exact this
              obtain ⟨e0, e1, e2, e3, e4, e5⟩ := NX.out.2.2.cells
              have b6 : Below w.heap.size w (((w6.setCell ⟨wx.heap.size, 0, none⟩ (.int .i64 0)).setCell ⟨wx.heap.size, 1, none⟩ (.int .i64 0)).setCell ⟨wx.heap.size, 2, none⟩ (.int .i64 0)) :=
                (((BEL1.out.trans (((Below.refl _ _).alloc BEL1.out.size _).trans (f6.below (by have := RS1.out.st.lt; simp; omega) |>.mono HQB.out))).setCell BEL1.out.size _).setCell BEL1.out.size _).setCell BEL1.out.size _
              have B6 := Lib.hid b6
              have MM : Hid (lenW (((w6.setCell ⟨wx.heap.size, 0, none⟩ (.int .i64 0)).setCell ⟨wx.heap.size, 1, none⟩ (.int .i64 0)).setCell ⟨wx.heap.size, 2, none⟩ (.int .i64 0)) QB ≤ (l.length + (4098 - N))) := by
                show _ ≤ _
                have := NX.out.1.lenW
                simp only at this
                rw [this]
                have := MEAS.out
                simp only [List.length_nil, Nat.zero_add]
                omega
              clear s6 f6 hnil b6 n0 n1 n2 ll q9
              go_wp2_with fail
              go_roundw
              case rel => exact ⟨_, _, _, _, _, rfl, NX.out.1, NX.out.2.1, B6.out, .inr ⟨rfl, _, _, DJ2.out⟩⟩
              case measure => rw [M0.out]; have := MM.out; simp only [tick]; omega
          · have RS := Lib.hid rs
            have VIS := Lib.hid vis
            have BEL := Lib.hid bel
            have DJ := Lib.hid dj2
            have HP := Lib.hid hp
            obtain ⟨g0, g1, g2, g3, -⟩ := rs.cells hv
            obtain ⟨n0, n1, n2, -⟩ := vis.cells
            have NQ := neq_cost ((W : Int), (k : Int)) (gl lab v) false (by rw [decide_eq_true heq.symm]; rfl)
            have gv : (v : Int) < (n : Int) := by omega
            have HEQ := Lib.hid heq
            have HKL := Lib.hid hkl
            clear hrel rs vis bel dj dj2 hp perm mn heq hvX hkl plen low
            go_wp2_with fail
            go_quiet (fail)
            have RS1 : Hid (Rs (wr.drewN nq) w.heap.size w.heap.size QB PB n lab l N) := RS.out.below (below_drewN (Below.refl _ _) nq)
            have VIS1 : Hid (Vis (wr.drewN nq) pb ((v : Int), (W : Int), (k : Int))) := VIS.out.below (below_drewN (Below.refl _ _) nq)
            have BEL1 : Hid (Below w.heap.size w (wr.drewN nq)) := below_drewN BEL.out nq
            clear RS VIS BEL g0 g1 g2 g3 n0 n1 n2 NQ
            generalize wr.drewN nq = wx at RS1 VIS1 BEL1 ⊢
            have LKR := (HM.out.below BEL1.out).look v (by omega)
            obtain ⟨A, c, hV, -, -, -⟩ := HM.out.2 v
            rw [hV] at LKR
            have HL : Hid (∀ wy, Below w.heap.size w wy → LstD wy (.slice A (outs D v).length c) (outs D v)) := by
              intro wy hb
              have := (HM.out.2 v).below hb
              rw [hV] at this
              exact this
            clear hV
            obtain ⟨n0, n1, n2, -⟩ := VIS1.out.cells
            obtain ⟨g0, g1, -⟩ := RS1.out.cells hb
            have LOW := Lib.hid (DJ.out.low hD)
            have hol := Nat.le_trans (outs_len D v) hD
            go_wp2_with fail
            clear LKR n0 n1 n2 g0 g1
            go_loopw [57] (fun i wy => ∃ (j : Nat) (lab' : List Ct) (l' : List (Pr × Nat)) (N' : Nat), i = .int .i64 j ∧ j ≤ (outs D v).length ∧ Hid (Rs wy w.heap.size w.heap.size QB PB n lab' l' N') ∧ Hid (Vis wy pb ((v : Int), (W : Int), (k : Int))) ∧ Hid (Below w.heap.size w wy) ∧ Hid (Dj D n b lab' (l'.map (·.1)) (v :: X) ((outs D v).drop j) N' (128 * (W : Int) + (k : Int)) ∧ Hp lCost l' ∧ gl lab' v = ((W : Int), (k : Int))) ∧ Hid (l'.length + (4098 - N') ≤ l.length + (4098 - N))) (fun i _ => (outs D v).length - (intOf i).toNat)
            case atStart => exact ⟨0, lab, l, N, rfl, Nat.zero_le _, RS1, VIS1, BEL1, ⟨DJ.out, HP.out, HEQ.out⟩, Lib.hid (Nat.le_refl _)⟩
            case round =>
              clear RS1 VIS1 BEL1 DJ HP HEQ LOW
              obtain ⟨j, lab1, l1, N1, rfl, hj, RS, VIS, BEL, DJ3, MEAS⟩ := hrel
              by_cases hlt : j < (outs D v).length
              · obtain ⟨e, he⟩ := at_lt hlt
                obtain ⟨heD, hev⟩ := outs_from he
                obtain ⟨s, t, q⟩ := e
                simp only at hev
                subst hev
                obtain ⟨b0, o, rfl, hb0, r0, r1, r2⟩ := three_at de_len (HL.out wr BEL.out) he rfl
                simp only at r0 r1 r2
                have hin := HI.out _ heD
                have hwt := HW.out _ heD
                simp only at hin hwt
                have hd := DJ3.out.1
                rw [drop_at _ j _ he] at hd
                have low := hd.low hD
                simp at low
                have gj : (j : Int) < ((outs D s).length : Int) := by omega
                obtain ⟨w7, hw7⟩ : ∃ x, wr.alloc (.cells #[.int .i64 (s : Int), .int .i64 (t : Int), .int .i64 (q : Int)] 47 (0, 0)) = x := ⟨_, rfl⟩
                have b7 : Below wr.heap.size wr w7 := by rw [← hw7]; exact (Below.refl _ _).alloc (Nat.le_refl _) _
                have c7 : w7.heap[wr.heap.size]? = some (.cells #[.int .i64 (s : Int), .int .i64 (t : Int), .int .i64 (q : Int)] 47 (0, 0)) := by rw [← hw7]; exact heap_alloc_new _ _
                have RS7 := Lib.hid (RS.out.below b7)
                have VIS7 := Lib.hid (VIS.out.below b7)
                have BEL7 : Hid (Below w.heap.size w w7) := BEL.out.trans (b7.mono BEL.out.size)
                have p0 : w7.cell? ⟨wr.heap.size, 0, none⟩ = some (.int .i64 (s : Int)) := by rw [cell_of_row _ _ 0 _ _ _ c7]; rfl
                have p1 : w7.cell? ⟨wr.heap.size, 1, none⟩ = some (.int .i64 (t : Int)) := by rw [cell_of_row _ _ 1 _ _ _ c7]; rfl
                have p2 : w7.cell? ⟨wr.heap.size, 2, none⟩ = some (.int .i64 (q : Int)) := by rw [cell_of_row _ _ 2 _ _ _ c7]; rfl
                obtain ⟨n0, n1, n2, -⟩ := VIS7.out.cells
                have PL := Lib.hid (fun W' => plus_any ((W : Int), (k : Int)) (s : Int) (t : Int) q (by simp only; omega) (by simp only; omega) (by simp only; omega) (by simp only; omega) (by omega) W')
                have ST : Hid ((ltC (plusC ((W : Int), (k : Int)) q) (gl lab1 t) = true → Dj D n b (lab1.set t (plusC ((W : Int), (k : Int)) q)) ((pushH lCost l1 N1 ((t : Int), plusC ((W : Int), (k : Int)) q)).map (·.1)) (s :: X) ((outs D s).drop (j + 1)) (N1 + 1) (128 * (W : Int) + (k : Int)) ∧ Hp lCost (pushH lCost l1 N1 ((t : Int), plusC ((W : Int), (k : Int)) q)) ∧ gl (lab1.set t (plusC ((W : Int), (k : Int)) q)) s = ((W : Int), (k : Int)))
                    ∧ (ltC (plusC ((W : Int), (k : Int)) q) (gl lab1 t) = false → Dj D n b lab1 (l1.map (·.1)) (s :: X) ((outs D s).drop (j + 1)) N1 (128 * (W : Int) + (k : Int)) ∧ Hp lCost l1 ∧ gl lab1 s = ((W : Int), (k : Int)))) := by
                  obtain ⟨-, h2, h3⟩ := DJ3.out
                  refine ⟨fun h => ?_, fun h => ?_⟩
                  · have := Dj.pushed (l := l1) hd hn (by simp) heD HI.out (by show key (gl lab1 s) = _; rw [h3]; rfl) (by show (gl lab1 s).2 + 1 ≤ _; rw [h3]; have := HKL.out; simp at this ⊢; omega) (by show ltC (plusC (gl lab1 s) q) _ = true; rw [h3]; exact h)
                    simp only [h3] at this
                    exact ⟨this.1, push_heap cost_ord h2 _ _, this.2⟩
                  · exact ⟨hd.keep hn heD HI.out (by show ltC (plusC (gl lab1 s) q) _ = false; rw [h3]; exact h), h2, h3⟩
                have T0 : Hid (wr.heap.size < w7.heap.size ∧ pb < w7.heap.size) := ⟨lt_of_heap c7, lt_of_heap VIS7.out⟩
                have C7 := Lib.hid c7
                clear he heD hd DJ3 RS VIS BEL b7 c7 n0
                obtain ⟨cx, hcx⟩ : ∃ x, plusC ((W : Int), (k : Int)) q = x := ⟨_, rfl⟩
                rw [hcx] at ST PL
                clear hcx hwt
                have bref := Below.refl w7.heap.size w7
                have EC : Hid (∀ w9, w9.heap[wr.heap.size]? = some (.cells #[.int .i64 (s : Int), .int .i64 (t : Int), .int .i64 (q : Int)] 47 (0, 0)) → Vis w9 pb ((s : Int), (W : Int), (k : Int)) → w9.cell? ⟨wr.heap.size, 0, none⟩ = some (.int .i64 (s : Int)) ∧ w9.cell? ⟨wr.heap.size, 1, none⟩ = some (.int .i64 (t : Int)) ∧ w9.cell? ⟨wr.heap.size, 2, none⟩ = some (.int .i64 (q : Int)) ∧ w9.cell? ⟨pb, 1, none⟩ = some (.int .i64 (W : Int)) ∧ w9.cell? ⟨pb, 2, none⟩ = some (.int .i64 (k : Int))) := by
                  intro w9 h1 h2
                  obtain ⟨-, a1, a2, -⟩ := h2.cells
                  refine ⟨?_, ?_, ?_, a1, a2⟩
                  · rw [cell_of_row _ _ 0 _ _ _ h1]; rfl
                  · rw [cell_of_row _ _ 1 _ _ _ h1]; rfl
                  · rw [cell_of_row _ _ 2 _ _ _ h1]; rfl
                cases hless : ltC cx (gl lab1 t) with
                | true =>
                  have ST1 := Lib.hid (ST.out.1 hless)
                  have RC : Hid (∀ W', Below w7.heap.size w7 W' → Calls Try.prog 37 #[.int .i64 (t : Int), .agg #[.int .i64 cx.1, .int .i64 cx.2], .pointer (some ⟨w.heap.size + 1, 0, none⟩), .pointer (some ⟨PB, 0, none⟩)] W' fun e w9 => e = .returned (.tuple #[]) ∧ Rs w9 w.heap.size w.heap.size QB PB n (lab1.set t cx) (pushH lCost l1 N1 ((t : Int), cx)) (N1 + 1) ∧ Vis w9 pb ((s : Int), (W : Int), (k : Int)) ∧ Below w.heap.size w w9 ∧ w9.heap[wr.heap.size]? = some (.cells #[.int .i64 (s : Int), .int .i64 (t : Int), .int .i64 (q : Int)] 47 (0, 0))) := by
                    intro W' hb'
                    refine (reach_yes w.heap.size w.heap.size QB PB n (Nat.le_refl _) HQB.out lab1 l1 N1 t hin.2 cx hless (by omega) (by omega) W' (Nat.le_trans BEL7.out.size hb'.size) (RS7.out.below hb')).mono ?_
                    rintro e w9 ⟨rfl, r9, f9⟩
                    exact ⟨rfl, r9, f9.other (VIS7.out.below hb') not_lt_vis, (BEL7.out.trans (hb'.mono BEL7.out.size)).trans (f9.below (Nat.le_trans BEL7.out.size hb'.size)), f9.other ((hb'.block _ T0.out.1).trans C7.out) not_lt_edge⟩
                  have M9 : Hid ((pushH lCost l1 N1 ((t : Int), cx)).length + (4098 - (N1 + 1)) ≤ l.length + (4098 - N)) := by
                    show _ ≤ _
                    have := MEAS.out
                    rw [push_len]
                    omega
                  clear ST hless MEAS RS7 VIS7 BEL7 C7
                  go_wp2_with fail
                  clear r0 r1 r2
                  go_region_held3 (fun W' => W'.cell? ⟨wr.heap.size, 0, none⟩ = some (.int .i64 (s : Int)) ∧ W'.cell? ⟨wr.heap.size, 1, none⟩ = some (.int .i64 (t : Int)) ∧ W'.cell? ⟨wr.heap.size, 2, none⟩ = some (.int .i64 (q : Int)) ∧ W'.cell? ⟨pb, 1, none⟩ = some (.int .i64 (W : Int)) ∧ W'.cell? ⟨pb, 2, none⟩ = some (.int .i64 (k : Int))) (first | assumption | (exact ⟨by assumption, by assumption, by assumption, by assumption, by assumption⟩)) (first
                    | (go_at_call 40; with_reducible refine (rel (W := w7) (PL.out _) (by first | assumption | (apply Below.drew; assumption))).mono ?_; rintro e wb ⟨rfl, bb⟩; have cb0 := (bb.cell (p := ⟨wr.heap.size, 0, none⟩) T0.out.1).trans p0; have cb1 := (bb.cell (p := ⟨wr.heap.size, 1, none⟩) T0.out.1).trans p1; have cb2 := (bb.cell (p := ⟨wr.heap.size, 2, none⟩) T0.out.1).trans p2; have cb3 := (bb.cell (p := ⟨pb, 1, none⟩) T0.out.2).trans n1; have cb4 := (bb.cell (p := ⟨pb, 2, none⟩) T0.out.2).trans n2)
                    | (go_at_call 37; with_reducible refine (RC.out _ (by first | assumption | (apply Below.drew; assumption))).mono ?_; rintro e w9 ⟨rfl, r9, v9, b9, h9⟩; obtain ⟨d0, d1, d2, d3, d4⟩ := EC.out w9 h9 v9))
                  have R9 := Lib.hid r9
                  have V9 := Lib.hid v9
                  have B9 := Lib.hid b9
                  clear r9 v9 b9 h9 RC PL p0 p1 p2 n1 n2 bref bb EC T0 cb1 cb2 cb3 cb4 cb0 d0 d1 d2 d3 d4
                  go_wp2_with fail
                  go_roundw
                  case rel => exact ⟨j + 1, _, _, _, by go_num, by omega, R9, V9, B9, ST1, M9⟩
                  case measure => simp [intOf]; omega
                | false =>
                  have ST1 := Lib.hid (ST.out.2 hless)
                  have RC : Hid (∀ W', Below w7.heap.size w7 W' → Calls Try.prog 37 #[.int .i64 (t : Int), .agg #[.int .i64 cx.1, .int .i64 cx.2], .pointer (some ⟨w.heap.size + 1, 0, none⟩), .pointer (some ⟨PB, 0, none⟩)] W' fun e w9 => e = .returned (.tuple #[]) ∧ Rs w9 w.heap.size w.heap.size QB PB n lab1 l1 N1 ∧ Vis w9 pb ((s : Int), (W : Int), (k : Int)) ∧ Below w.heap.size w w9 ∧ w9.heap[wr.heap.size]? = some (.cells #[.int .i64 (s : Int), .int .i64 (t : Int), .int .i64 (q : Int)] 47 (0, 0))) := by
                    intro W' hb'
                    refine (reach_no w.heap.size w.heap.size QB PB n lab1 l1 N1 t hin.2 cx hless W' (RS7.out.below hb')).mono ?_
                    rintro e w9 ⟨rfl, b9⟩
                    exact ⟨rfl, (RS7.out.below hb').below b9, (VIS7.out.below hb').below b9, (BEL7.out.trans (hb'.mono BEL7.out.size)).trans (b9.mono (Nat.le_trans BEL7.out.size hb'.size)), (b9.block _ (Nat.lt_of_lt_of_le T0.out.1 hb'.size)).trans ((hb'.block _ T0.out.1).trans C7.out)⟩
                  clear ST hless RS7 VIS7 BEL7 C7
                  go_wp2_with fail
                  clear r0 r1 r2
                  go_region_held3 (fun W' => W'.cell? ⟨wr.heap.size, 0, none⟩ = some (.int .i64 (s : Int)) ∧ W'.cell? ⟨wr.heap.size, 1, none⟩ = some (.int .i64 (t : Int)) ∧ W'.cell? ⟨wr.heap.size, 2, none⟩ = some (.int .i64 (q : Int)) ∧ W'.cell? ⟨pb, 1, none⟩ = some (.int .i64 (W : Int)) ∧ W'.cell? ⟨pb, 2, none⟩ = some (.int .i64 (k : Int))) (first | assumption | (exact ⟨by assumption, by assumption, by assumption, by assumption, by assumption⟩)) (first
                    | (go_at_call 40; with_reducible refine (rel (W := w7) (PL.out _) (by first | assumption | (apply Below.drew; assumption))).mono ?_; rintro e wb ⟨rfl, bb⟩; have cb0 := (bb.cell (p := ⟨wr.heap.size, 0, none⟩) T0.out.1).trans p0; have cb1 := (bb.cell (p := ⟨wr.heap.size, 1, none⟩) T0.out.1).trans p1; have cb2 := (bb.cell (p := ⟨wr.heap.size, 2, none⟩) T0.out.1).trans p2; have cb3 := (bb.cell (p := ⟨pb, 1, none⟩) T0.out.2).trans n1; have cb4 := (bb.cell (p := ⟨pb, 2, none⟩) T0.out.2).trans n2)
                    | (go_at_call 37; with_reducible refine (RC.out _ (by first | assumption | (apply Below.drew; assumption))).mono ?_; rintro e w9 ⟨rfl, r9, v9, b9, h9⟩; obtain ⟨d0, d1, d2, d3, d4⟩ := EC.out w9 h9 v9))
                  have R9 := Lib.hid r9
                  have V9 := Lib.hid v9
                  have B9 := Lib.hid b9
                  clear r9 v9 b9 h9 RC PL p0 p1 p2 n1 n2 bref bb EC T0 cb1 cb2 cb3 cb4 cb0 d0 d1 d2 d3 d4
                  go_wp2_with fail
                  go_roundw
                  case rel => exact ⟨j + 1, _, _, _, by go_num, by omega, R9, V9, B9, ST1, MEAS⟩
                  case measure => simp [intOf]; omega
              · have d0 : decide (j < (outs D v).length) = false := by rw [decide_eq_false_iff_not]; exact hlt
                have DJ : Hid (Dj D n b lab1 (l1.map (·.1)) (v :: X) [] N1 (128 * (W : Int) + (k : Int))) := by
                  have := DJ3.out.1
                  rw [List.drop_of_length_le (by omega)] at this
                  exact this
                have HP := Lib.hid DJ3.out.2.1
                have LB : Hid (l1.length ≤ 4097 ∧ N1 ≤ 4097) := by
                  have := DJ.out.low hD
                  simp at this
                  constructor <;> omega
                clear hlt DJ3
                obtain ⟨n0, n1, n2, -⟩ := VIS.out.cells
                have q9 := ((RS.out.below ((Below.refl _ _).alloc (Nat.le_refl _) (.cells #[.int .i64 (v : Int), .int .i64 (W : Int), .int .i64 (k : Int)] 66 (0, 0)))).cells hb).2.1
                have ll := LB.out
                go_wp2_with fail
                refine (pop_all fun_cost QB N1 l1 (by omega) _ ((RS.out.below ((Below.refl _ _).alloc (Nat.le_refl _) _)).st)).mono ?_
                rintro e w6 (⟨a, ha, rfl, s6, f6⟩ | ⟨hnil, rfl, s6, f6⟩)
                · have NX := Lib.hid (RS.out.next ((v : Int), (W : Int), (k : Int)) a.1 s6 f6)
                  have TP := Lib.hid (pop_top DJ.out HP.out ha)
                  have PL := pop_len lCost l1
                  have hlt2 := (List.getElem?_eq_some_iff.1 ha).1
                  obtain ⟨e0, e1, e2, e3, e4, e5⟩ := NX.out.2.2.cells
                  have b6 : Below w.heap.size w (((w6.setCell ⟨wr.heap.size, 0, none⟩ (.int .i64 a.1.1)).setCell ⟨wr.heap.size, 1, none⟩ (.int .i64 a.1.2.1)).setCell ⟨wr.heap.size, 2, none⟩ (.int .i64 a.1.2.2)) :=
                    (((BEL.out.trans (((Below.refl _ _).alloc BEL.out.size _).trans (f6.below (by have := RS.out.st.lt; simp; omega) |>.mono HQB.out))).setCell BEL.out.size _).setCell BEL.out.size _).setCell BEL.out.size _
                  have B6 := Lib.hid b6
                  have MM : Hid (lenW (((w6.setCell ⟨wr.heap.size, 0, none⟩ (.int .i64 a.1.1)).setCell ⟨wr.heap.size, 1, none⟩ (.int .i64 a.1.2.1)).setCell ⟨wr.heap.size, 2, none⟩ (.int .i64 a.1.2.2)) QB < (l.length + (4098 - N))) := by
                    show _ < _
                    rw [NX.out.1.lenW, PL]
                    have := MEAS.out
                    omega
                  clear s6 f6 ha hlt2 PL b6 n0 n1 n2 ll q9
                  go_wp2_with fail
                  go_roundw
                  case rel => exact ⟨_, _, _, _, _, rfl, NX.out.1, NX.out.2.1, B6.out, .inl ⟨rfl, TP.out⟩⟩
                  case measure => rw [M0.out]; have := MM.out; simp only [tick]; omega
                · have NX := Lib.hid (RS.out.next ((v : Int), (W : Int), (k : Int)) (0, 0, 0) s6 f6)
                  have DJ2 : Hid (Dj D n b lab1 [] (v :: X) [] N1 (128 * (W : Int) + (k : Int))) := by have := DJ.out; rw [hnil] at this; exact this
                  obtain ⟨e0, e1, e2, e3, e4, e5⟩ := NX.out.2.2.cells
                  have b6 : Below w.heap.size w (((w6.setCell ⟨wr.heap.size, 0, none⟩ (.int .i64 0)).setCell ⟨wr.heap.size, 1, none⟩ (.int .i64 0)).setCell ⟨wr.heap.size, 2, none⟩ (.int .i64 0)) :=
                    (((BEL.out.trans (((Below.refl _ _).alloc BEL.out.size _).trans (f6.below (by have := RS.out.st.lt; simp; omega) |>.mono HQB.out))).setCell BEL.out.size _).setCell BEL.out.size _).setCell BEL.out.size _
                  have B6 := Lib.hid b6
                  have MM : Hid (lenW (((w6.setCell ⟨wr.heap.size, 0, none⟩ (.int .i64 0)).setCell ⟨wr.heap.size, 1, none⟩ (.int .i64 0)).setCell ⟨wr.heap.size, 2, none⟩ (.int .i64 0)) QB ≤ (l.length + (4098 - N))) := by
                    show _ ≤ _
                    have := NX.out.1.lenW
                    simp only at this
                    rw [this]
                    have := MEAS.out
                    simp only [List.length_nil, Nat.zero_add]
                    omega
                  clear s6 f6 hnil b6 n0 n1 n2 ll q9
                  go_wp2_with fail
                  go_roundw
                  case rel => exact ⟨_, _, _, _, _, rfl, NX.out.1, NX.out.2.1, B6.out, .inr ⟨rfl, _, _, DJ2.out⟩⟩
                  case measure => rw [M0.out]; have := MM.out; simp only [tick]; omega
        · have dn := Lib.hid (dj.done hn HI.out HW.out)
          have RS := Lib.hid rs
          have BEL := Lib.hid bel
          obtain ⟨g0, g1, -⟩ := rs.cells hb
          clear hrel rs vis bel dj
          go_wp2_with fail
          go_ret
          exact ⟨_, _, rfl, RS.out.own, dn.out, BEL.out⟩
end Go.Proofs.Ytahbgafjljfndaa
