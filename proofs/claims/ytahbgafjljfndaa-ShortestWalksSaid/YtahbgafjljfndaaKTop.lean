/-
  The program's Distances, Path, Components: what each call answers; nothing that existed before the call has changed behind it. Condition: lists of fewer than 2^63 edges.
-/
import Derived.Test.YtahbgafjljfndaaKSm
import Derived.Test.YtahbgafjljfndaaKCmp
import Derived.Test.YtahbgafjljfndaaAns
namespace Go.Proofs.Ytahbgafjljfndaa
open Go.RowKit

set_option maxRecDepth 100000 in
set_option maxHeartbeats 4000000 in
theorem kdist_any (n a : Int) (v : Value) (l : List Er) (hl : l.length ≤ 9223372036854775807) (w : World) (h : LstR w v l) :
    Calls Try.prog 11 #[.int .i64 n, v, .int .i64 a] w fun e w' => ∃ u, e = .returned (.tuple #[u, .int .i64 (chkK n l [a])]) ∧ OwnI w' w.heap.size u (ansD n l a) ∧ Below w.heap.size w w' := by
  have b0 : ∀ o, Below w.heap.size w (w.alloc o) := fun o => (Below.refl _ _).alloc (Nat.le_refl _) o
  have CK := Lib.hid (check_any n v (.slice (some ⟨w.heap.size, 0, none⟩) 1 1) l [a] hl (by simp) _ (h.below (b0 _)) (lsti_lit w #[.int .i64 a] [a] rfl 1 rfl))
  have H := Lib.hid h
  have hb0 := Lib.hid b0
  clear h b0
  by_cases hc : chkK n l [a] = 0
  · obtain ⟨h1, h2⟩ := chkK_zero hc
    obtain ⟨N, L, g⟩ := chkR_ok h1
    have hx := chkN_zero h2 a (by simp)
    have hn := g.n_eq
    obtain ⟨b, rfl⟩ : ∃ b : Nat, a = (b : Int) := ⟨a.toNat, by omega⟩
    have A := Lib.hid (ansD_ok g hc)
    rw [hc] at CK ⊢
    subst hn
    have HL : Hid (LstD w v L) := by have := H.out; rw [g.l_eq] at this; exact this.down
    have hN := g.le
    have hbN : b < N := by omega
    have hm := g.many
    have HI := Lib.hid g.inn
    have HW := Lib.hid g.low
    clear hc h1 h2 hx H hl g
    go_enter Try.func11, Try.ntmps11
    go_wp2_with fail
    refine CK.out.mono ?_
    rintro e w1 ⟨rfl, c1⟩
    have B1 : Hid (Below w.heap.size w w1) := (hb0.out _).trans (c1.mono (hb0.out _).size)
    clear c1 CK
    go_wp2_with fail
    refine (neighbors_any v L N hN HI.out hm w1 (HL.out.below B1.out)).mono ?_
    rintro e w2 ⟨mb, V, rfl, nb, b2⟩
    have B2 : Hid (Below w.heap.size w w2) := B1.out.trans (b2.mono B1.out.size)
    have NB := Lib.hid nb
    clear nb b2 B1
    go_wp2_with fail
    refine (distances_any N b mb V L hN hbN hm HI.out HW.out w2 NB.out).mono ?_
    rintro e w3 ⟨u, rfl, ow, b3⟩
    have K : Hid (OwnI w3 w.heap.size u (ansD (N : Int) l (b : Int)) ∧ Below w.heap.size w w3) := ⟨by rw [A.out]; exact own_down ow B2.out.size, B2.out.trans (b3.mono B2.out.size)⟩
    clear ow b3 B2 NB A
    go_wp2_with fail
    go_ret2
    exact ⟨_, rfl, K.out⟩
  · have A := Lib.hid (ansD_bad hc)
    have t := bne_true (a := chkK n l [a]) (b := 0) hc
    generalize chkK n l [a] = q at CK t ⊢
    clear hc H hl
    go_enter Try.func11, Try.ntmps11
    go_wp2_with fail
    refine CK.out.mono ?_
    rintro e w1 ⟨rfl, c1⟩
    have B1 : Hid (Below w.heap.size w w1) := (hb0.out _).trans (c1.mono (hb0.out _).size)
    clear c1 CK
    go_wp2_with fail
    go_ret2
    exact ⟨_, rfl, by rw [A.out]; exact OwnI.nil _ _, B1.out⟩
set_option maxRecDepth 100000 in
set_option maxHeartbeats 4000000 in
theorem kpath_any (n a b : Int) (v : Value) (l : List Er) (hl : l.length ≤ 9223372036854775807) (w : World) (h : LstR w v l) :
    Calls Try.prog 17 #[.int .i64 n, v, .int .i64 a, .int .i64 b] w fun e w' => ∃ u, e = .returned (.tuple #[u, .int .i64 (ansP n l a b).2.1, .int .i64 (ansP n l a b).2.2]) ∧ OwnI w' w.heap.size u (ansP n l a b).1 ∧ Below w.heap.size w w' := by
  have b0 : ∀ o, Below w.heap.size w (w.alloc o) := fun o => (Below.refl _ _).alloc (Nat.le_refl _) o
  have CK := Lib.hid (check_any n v (.slice (some ⟨w.heap.size, 0, none⟩) 2 2) l [a, b] hl (by simp) _ (h.below (b0 _)) (lsti_lit w #[.int .i64 a, .int .i64 b] [a, b] rfl 2 rfl))
  have H := Lib.hid h
  have hb0 := Lib.hid b0
  clear h b0
  by_cases hc : chkK n l [a, b] = 0
  · obtain ⟨h1, h2⟩ := chkK_zero hc
    obtain ⟨N, L, g⟩ := chkR_ok h1
    have hxa := chkN_zero h2 a (by simp)
    have hxb := chkN_zero h2 b (by simp)
    have hn := g.n_eq
    obtain ⟨s, rfl⟩ : ∃ s : Nat, a = (s : Int) := ⟨a.toNat, by omega⟩
    obtain ⟨t, rfl⟩ : ∃ t : Nat, b = (t : Int) := ⟨b.toNat, by omega⟩
    have AN := Lib.hid (fun h => ansP_no (a := s) (b := t) g hc h)
    have AY := Lib.hid (fun c h => ansP_yes (a := s) (b := t) (c := c) g hc h)
    rw [hc] at CK
    subst hn
    have HL : Hid (LstD w v L) := by have := H.out; rw [g.l_eq] at this; exact this.down
    have hN := g.le
    have hsN : s < N := by omega
    have htN : t < N := by omega
    have hm := g.many
    have HI := Lib.hid g.inn
    have HW := Lib.hid g.low
    have GT := Lib.hid g.turn
    have htl : (turnL L).length ≤ 4096 := by rw [turn_len]; exact hm
    clear hc h1 h2 hxa hxb H hl g
    generalize hR : ansP (N : Int) l (s : Int) (t : Int) = R at AN AY ⊢
    clear hR
    go_enter Try.func17, Try.ntmps17
    go_wp2_with fail
    refine CK.out.mono ?_
    rintro e w1 ⟨rfl, c1⟩
    have B1 : Hid (Below w.heap.size w w1) := (hb0.out _).trans (c1.mono (hb0.out _).size)
    clear c1 CK
    go_wp2_with fail
    refine (reversed_any v L hm w1 (HL.out.below B1.out)).mono ?_
    rintro e w2 ⟨u2, rfl, ow2, b2⟩
    have B2 : Hid (Below w.heap.size w w2) := B1.out.trans (b2.mono B1.out.size)
    have L2 : Hid (LstD w2 u2 (turnL L)) := OwnG.lst ow2
    clear ow2 b2 B1
    go_wp2_with fail
    refine (neighbors_any u2 (turnL L) N hN GT.out.1 htl w2 L2.out).mono ?_
    rintro e w3 ⟨mb, V, rfl, nb, b3⟩
    have B3 : Hid (Below w.heap.size w w3) := B2.out.trans (b3.mono B2.out.size)
    have NB := Lib.hid nb
    clear nb b3 B2 L2
    go_wp2_with fail
    refine (least_any N t mb V (turnL L) hN htN htl GT.out.1 GT.out.2 w3 NB.out).mono ?_
    rintro e w4 ⟨u4, lab, rfl, ow4, lc, b4⟩
    have B4 : Hid (Below w.heap.size w w4) := B3.out.trans (b4.mono B3.out.size)
    have hlab := lc.1
    have L4 : Hid (LstC w4 u4 lab) := OwnG.lst ow4
    have LC := Lib.hid lc
    obtain ⟨A4, c4, rfl, -, -, -⟩ := id L4.out
    obtain ⟨b5, o5, rfl, hb5, q0, q1⟩ := two_at L4.out (at_gl (lab := lab) (i := s) (by omega))
    have gs : (s : Int) < (N : Int) := by omega
    rw [hlab] at L4 ⊢
    rcases lc.at hN htN HI.out hsN with ⟨e1, e2, -⟩ | ⟨c, e1, e2, e3, e4, e5⟩
    · rw [e1] at q0 q1
      simp only [farC] at q0 q1
      have RR := Lib.hid (AN.out (by rw [e2]; decide))
      clear ow4 b4 lc B3 NB e1 e2 AN AY LC L4
      go_wp2_with fail
      go_ret3
      rw [RR.out]
      exact ⟨_, rfl, OwnI.nil _ _, B4.out⟩
    · rw [e1] at q0 q1
      simp only at q0 q1
      have RR := Lib.hid (AY.out c e2)
      have PE := Lib.hid (pathR_eq lc hN htN HI.out hsN e5 e1 e2 e3)
      have E := Lib.hid (And.intro e1 (And.intro e2 (And.intro e3 e5)))
      have t0 := beq_false (a := ((c / 128 : Nat) : Int)) (b := 68719476736) (by omega)
      clear ow4 b4 lc B3 NB e1 e2 AN AY e3 e4 e5
      obtain ⟨cl, hcl⟩ : ∃ x, c / 128 = x := ⟨_, rfl⟩
      have HCL := Lib.hid hcl
      rw [hcl] at q0 t0
      clear hcl
      go_wp2_with fail
      refine (neighbors_any v L N hN HI.out hm w4 (HL.out.below B4.out)).mono ?_
      rintro e w6 ⟨mb2, V2, rfl, nb6, b6⟩
      have B6 : Hid (Below w.heap.size w w6) := B4.out.trans (b6.mono B4.out.size)
      have NB6 := Lib.hid nb6
      have L6 : Hid (LstC w6 (.slice (some ⟨b5, o5, none⟩) N c4) lab) := by have := L4.out.below b6; exact this
      clear nb6 b6 q0 q1 t0
      go_wp2_with fail
      refine (smallest_any N s t mb2 c V2 L lab _ hN htN hsN hm HI.out HW.out LC.out E.out.2.2.2 E.out.1 E.out.2.1 E.out.2.2.1 w6 NB6.out L6.out).mono ?_
      rintro e w7 ⟨u7, rfl, ow7, b7⟩
      have K : Hid (OwnI w7 w.heap.size u7 R.1 ∧ Below w.heap.size w w7) := ⟨by rw [RR.out]; simp only; rw [PE.out]; exact own_down ow7 B6.out.size, B6.out.trans (b7.mono B6.out.size)⟩
      clear ow7 b7 B6 NB6 L6 E PE
      go_wp2_with fail
      go_ret3
      refine ⟨_, ?_, K.out⟩
      rw [RR.out, ← HCL.out]
      rfl
  · have A := Lib.hid (ansP_bad hc)
    have t := bne_true (a := chkK n l [a, b]) (b := 0) hc
    generalize chkK n l [a, b] = q at CK t A ⊢
    clear hc H hl
    go_enter Try.func17, Try.ntmps17
    go_wp2_with fail
    refine CK.out.mono ?_
    rintro e w1 ⟨rfl, c1⟩
    have B1 : Hid (Below w.heap.size w w1) := (hb0.out _).trans (c1.mono (hb0.out _).size)
    clear c1 CK
    go_wp2_with fail
    go_ret3
    rw [A.out]
    exact ⟨_, rfl, OwnI.nil _ _, B1.out⟩
/-! ### Components -/
theorem labS_at' {n k : Nat} (h : k < n) : (labS n)[k]? = some (k : Int) := by
  unfold labS
  rw [List.getElem?_map, List.getElem?_range h]
  rfl
set_option maxRecDepth 100000 in
set_option maxHeartbeats 4000000 in
theorem kcomp_any (n : Int) (v : Value) (l : List Er) (hl : l.length ≤ 9223372036854775807) (w : World) (h : LstR w v l) :
    Calls Try.prog 19 #[.int .i64 n, v] w fun e w' => ∃ u, e = .returned (.tuple #[u, .int .i64 (chkR n l)]) ∧ OwnI w' w.heap.size u (ansC n l) ∧ Below w.heap.size w w' := by
  have CK := Lib.hid (check_any n v (.slice none 0 0) l [] hl (by simp) w h (LstI.nil w))
  rw [chkK_nil] at CK
  have H := Lib.hid h
  clear h
  by_cases hc : chkR n l = 0
  · obtain ⟨N, L, g⟩ := chkR_ok hc
    have hn := g.n_eq
    have A := Lib.hid (ansC_ok g hc)
    rw [hc] at CK ⊢
    subst hn
    have HL : Hid (LstD w v L) := by have := H.out; rw [g.l_eq] at this; exact this.down
    have hN := g.le
    have hm := g.many
    have HI := Lib.hid g.inn
    clear hc H hl g
    have MK := mkI_rep N (by omega) (N : Int) rfl
    go_enter Try.func19, Try.ntmps19
    go_wp2_with fail
    refine CK.out.mono ?_
    rintro e w1 ⟨rfl, c1⟩
    obtain ⟨w2, hw2⟩ : ∃ x, w1.alloc (.cells (Array.replicate N (Value.int .i64 0)) 3 (0, 0)) = x := ⟨_, rfl⟩
    have O2 : Hid (OwnI w2 w1.heap.size (.slice (some ⟨w1.heap.size, 0, none⟩) N N) (partG 0 (labS N) N 0)) := by
      show OwnI _ _ _ _
      rw [partG_zero, ← hw2]
      exact ownI_rep w1 N (by omega)
    have hz1 := c1.size
    have b12 : Below w1.heap.size w1 w2 := by rw [← hw2]; exact (Below.refl _ _).alloc (Nat.le_refl _) _
    have B2 : Hid (Below w.heap.size w w2) := c1.trans (b12.mono hz1)
    have Z2 : Hid (w2.heap.size = w1.heap.size + 1) := by show _ = _; rw [← hw2]; simp
    clear c1 b12 CK
    go_wp2_with fail
    clear MK hw2
    generalize hG : w1.heap.size = G at *
    clear hG
    have HZ1 := Lib.hid hz1
    clear hz1
    go_loopw [22] (fun i wr => ∃ k : Nat, i = .int .i64 k ∧ k ≤ N ∧ Hid (OwnI wr G (.slice (some ⟨G, 0, none⟩) N N) (partG 0 (labS N) N k)) ∧ Hid (wr.heap[w2.heap.size]? = some (.cells #[.slice (some ⟨G, 0, none⟩) N N] 25 (0, 0))) ∧ Hid (Below w.heap.size w wr)) (fun i _ => N - (intOf i).toNat)
    case atStart => exact ⟨0, rfl, Nat.zero_le _, Lib.hid (O2.out.below ((Below.refl _ _).alloc (Nat.le_refl _) _)), Lib.hid (heap_alloc_new _ _), Lib.hid (B2.out.alloc B2.out.size _)⟩
    case round =>
      clear O2 B2
      obtain ⟨k, rfl, hk, HO, HX, HB⟩ := hrel
      have x0 : wr.cell? ⟨w2.heap.size, 0, none⟩ = some (.slice (some ⟨G, 0, none⟩) N N) := by rw [cell_of_row _ _ 0 _ _ _ HX.out]; rfl
      by_cases hlt : k < N
      · have gk : (k : Int) < (N : Int) := by omega
        have hpl := partG_len (z := (0 : Int)) (labS_length N) hk
        obtain ⟨q0, f0⟩ := OwnI.atn hpl HO.out (partG_at (labS_length N) hlt)
        have O3 : Hid (OwnI (wr.setCell ⟨G, k, none⟩ (.int .i64 (k : Int))) G (.slice (some ⟨G, 0, none⟩) N N) (partG 0 (labS N) N (k + 1))) := by
          show OwnI _ _ _ _
          rw [← partG_set (z := (0 : Int)) (labS_length N) (labS_at' hlt)]
          exact OwnI.putn hpl HO.out k _
        have X3 : Hid ((wr.setCell ⟨G, k, none⟩ (.int .i64 (k : Int))).heap[w2.heap.size]? = some (.cells #[.slice (some ⟨G, 0, none⟩) N N] 25 (0, 0))) := (RowKit.Below.heap_setCell _ _ _ _ (by have := Z2.out; show w2.heap.size ≠ G; omega)).trans HX.out
        have B3 : Hid (Below w.heap.size w (wr.setCell ⟨G, k, none⟩ (.int .i64 (k : Int)))) := HB.out.setCell HZ1.out _
        clear HO HX HB hpl
        go_wp2_with fail
        go_roundw
        case rel => exact ⟨k + 1, by go_num, by omega, O3, X3, B3⟩
        case measure => simp [intOf]; omega
      · have d : decide (k < N) = false := by rw [decide_eq_false_iff_not]; exact hlt
        have O3 : Hid (OwnI wr G (.slice (some ⟨G, 0, none⟩) N N) (labS N)) := by
          have := HO.out
          rw [show k = N by omega, partG_all (labS_length N)] at this
          exact this
        clear hlt HO
        obtain ⟨A1, c1, rfl, -, -, -⟩ := id HL.out
        go_wp2_with fail
        clear x0 d hk
        go_loopw [33] (fun i wx => ∃ (j : Nat) (par : List Int), i = .int .i64 j ∧ j ≤ L.length ∧ Hid (Uf L N par ∧ Jn par (L.take j)) ∧ Hid (OwnI wx G (.slice (some ⟨G, 0, none⟩) N N) par) ∧ Hid (wx.heap[w2.heap.size]? = some (.cells #[.slice (some ⟨G, 0, none⟩) N N] 25 (0, 0))) ∧ Hid (Below w.heap.size w wx)) (fun i _ => L.length - (intOf i).toNat)
        case atStart => exact ⟨0, labS N, rfl, Nat.zero_le _, ⟨uf_start L N, fun e he => by cases he⟩, O3, HX, HB⟩
        case round =>
          clear O3 HX HB
          obtain ⟨j, par, rfl, hj, HU, HO, HX, HB⟩ := hrel
          by_cases hlt : j < L.length
          · obtain ⟨e, he⟩ := at_lt hlt
            obtain ⟨b0, o, rfl, hb0, r0, r1, r2⟩ := three_at de_len (HL.out.below HB.out) he rfl
            have hel : e ∈ L := List.mem_iff_getElem?.2 ⟨j, he⟩
            have hin := HI.out e hel
            obtain ⟨x, hx⟩ := HU.out.1.rt e.1 hin.1
            obtain ⟨y, hy⟩ := HU.out.1.rt e.2.1 hin.2
            have MG := Lib.hid (HU.out.1.merge HU.out.2 hel HI.out hx hy)
            have TK := Lib.hid (take_at L j e he)
            have hpl := HU.out.1.len
            have hxy : max x y < N := by
              have := hx.le
              have := hy.le
              omega
            obtain ⟨s, t, z⟩ := e
            simp only at r0 r1 r2 hin hx hy
            have gj : (j : Int) < (L.length : Int) := by omega
            obtain ⟨w7, hw7⟩ : ∃ W, wr.alloc (.cells #[.int .i64 (s : Int), .int .i64 (t : Int), .int .i64 (z : Int)] 47 (0, 0)) = W := ⟨_, rfl⟩
            have b7 : Below wr.heap.size wr w7 := by rw [← hw7]; exact (Below.refl _ _).alloc (Nat.le_refl _) _
            have c7 : w7.heap[wr.heap.size]? = some (.cells #[.int .i64 (s : Int), .int .i64 (t : Int), .int .i64 (z : Int)] 47 (0, 0)) := by rw [← hw7]; exact heap_alloc_new _ _
            have p0 : w7.cell? ⟨wr.heap.size, 0, none⟩ = some (.int .i64 (s : Int)) := by rw [cell_of_row _ _ 0 _ _ _ c7]; rfl
            have p1 : w7.cell? ⟨wr.heap.size, 1, none⟩ = some (.int .i64 (t : Int)) := by rw [cell_of_row _ _ 1 _ _ _ c7]; rfl
            have O7 := Lib.hid (HO.out.below b7)
            have h7 := (b7.block _ (lt_of_heap HX.out)).trans HX.out
            have x7 : w7.cell? ⟨w2.heap.size, 0, none⟩ = some (.slice (some ⟨G, 0, none⟩) N N) := by rw [cell_of_row _ _ 0 _ _ _ h7]; rfl
            have X7 := Lib.hid h7
            have B7 : Hid (Below w.heap.size w w7) := HB.out.trans (b7.mono HB.out.size)
            have MC := Lib.hid (merge_any N G w2.heap.size s t x y N par hpl hin.1 hin.2 hx hy G w7 O7.out x7)
            have O8 : Hid (OwnI (w7.setCell ⟨G, max x y, none⟩ (.int .i64 ((min x y : Nat) : Int))) G (.slice (some ⟨G, 0, none⟩) N N) (par.set (max x y) ((min x y : Nat) : Int))) := OwnI.putn hpl O7.out _ _
            have X8 : Hid ((w7.setCell ⟨G, max x y, none⟩ (.int .i64 ((min x y : Nat) : Int))).heap[w2.heap.size]? = some (.cells #[.slice (some ⟨G, 0, none⟩) N N] 25 (0, 0))) := (RowKit.Below.heap_setCell _ _ _ _ (by have := Z2.out; show w2.heap.size ≠ G; omega)).trans X7.out
            have B8 : Hid (Below w.heap.size w (w7.setCell ⟨G, max x y, none⟩ (.int .i64 ((min x y : Nat) : Int)))) := B7.out.setCell HZ1.out _
            have M8 : Hid (Uf L N (par.set (max x y) ((min x y : Nat) : Int)) ∧ Jn (par.set (max x y) ((min x y : Nat) : Int)) (L.take (j + 1))) := by
              refine ⟨MG.out.1, ?_⟩
              rw [TK.out]
              exact MG.out.2
            clear he hel hx hy hxy b7 c7 h7 O7 X7 B7 MG TK HO HX HB HU
            go_wp2_with fail
            refine MC.out.mono ?_
            rintro e w9 ⟨rfl, rfl⟩
            clear MC p0 p1 x7 r0 r1 r2
            go_wp2_with fail
            go_roundw
            case rel => exact ⟨j + 1, _, by go_num, by omega, M8, O8, X8, B8⟩
            case measure => simp [intOf]; omega
          · have d : decide (j < L.length) = false := by rw [decide_eq_false_iff_not]; exact hlt
            have x0 : wr.cell? ⟨w2.heap.size, 0, none⟩ = some (.slice (some ⟨G, 0, none⟩) N N) := by rw [cell_of_row _ _ 0 _ _ _ HX.out]; rfl
            have HJ : Hid (Jn par L) := by
              have := HU.out.2
              rw [List.take_of_length_le (by omega)] at this
              exact this
            have hpl := HU.out.1.len
            have LI : Hid (LstI wr (.slice (some ⟨G, 0, none⟩) N N) par) := by
              have := HO.out
              exact OwnI.lst this
            clear hlt HO HX hpl
            go_wp2_with fail
            refine (numbers_any N hN L par HU.out.1 HJ.out HI.out _ wr LI.out).mono ?_
            rintro e w9 ⟨u, rfl, ow, b9⟩
            have K : Hid (OwnI w9 w.heap.size u (ansC (N : Int) l) ∧ Below w.heap.size w w9) := ⟨by rw [A.out]; exact own_down ow HB.out.size, HB.out.trans (b9.mono HB.out.size)⟩
            clear ow b9 LI HB HU
            go_wp2_with fail
            go_ret2
            exact ⟨_, rfl, K.out⟩
  · have A := Lib.hid (ansC_bad hc)
    have t := bne_true (a := chkR n l) (b := 0) hc
    generalize chkR n l = q at CK t ⊢
    clear hc H hl
    go_enter Try.func19, Try.ntmps19
    go_wp2_with fail
    refine CK.out.mono ?_
    rintro e w1 ⟨rfl, c1⟩
    have B1 := Lib.hid c1
    clear c1 CK
    go_wp2_with fail
    go_ret2
    exact ⟨_, rfl, by rw [A.out]; exact OwnI.nil _ _, B1.out⟩
end Go.Proofs.Ytahbgafjljfndaa
