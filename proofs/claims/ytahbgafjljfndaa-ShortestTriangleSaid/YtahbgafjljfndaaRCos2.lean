/-
  The reference's costs of a graph: what the call answers; nothing that existed before the call has changed behind it. Condition: a checked graph.
-/
import Derived.Test.YtahbgafjljfndaaRCost
namespace Go.Proofs.Ytahbgafjljfndaa
open Go.RowKit

set_option maxRecDepth 100000 in
set_option maxHeartbeats 4000000 in
theorem rcosts_any (N : Nat) (v : Value) (L : List Ed) (b : Nat) (hN : N ≤ 64) (hb : b < N) (hL : L.length ≤ 4096) (hi : Inn L N) (hw : ∀ e ∈ L, e.2.2 ≤ 1073741824) (w : World) (h : LstD w v L) :
    Calls Try.prog 26 #[.int .i64 (N : Int), v, .int .i64 (b : Int)] w fun e w' => ∃ u, e = .returned u ∧ OwnI w' w.heap.size u (costL N L b) ∧ Below w.heap.size w w' := by
  have H := Lib.hid h
  have HI := Lib.hid hi
  have HW := Lib.hid hw
  obtain ⟨A, c, rfl, -, -, -⟩ := h
  clear hi hw
  go_enter Try.func26, Try.ntmps26
  go_wp2_with fail
  go_loopw [7, 8] (fun u i wr => ∃ k : Nat, i = .int .i64 k ∧ k ≤ N ∧ Hid (OwnI wr w.heap.size u (List.replicate k (-1))) ∧ Hid (Below w.heap.size w wr)) (fun _ i _ => N - (intOf i).toNat)
  case atStart => exact ⟨0, rfl, Nat.zero_le _, Lib.hid (OwnI.nil _ _), Lib.hid (Below.refl _ _)⟩
  case round =>
    obtain ⟨k, rfl, hk, HO, HB⟩ := hrel
    by_cases hlt : k < N
    · have gk : (k : Int) < (N : Int) := by omega
      have hz := HB.out.size
      clear H
      go_wp2_with (at_builtin; refine app_int _ rfl (.tmp 18) (.tmp 19) rfl w.heap.size _ (List.replicate k (-1)) (-1) rfl (World.ownsRow.alloc HO.out _) wr.heap.size _ (heap_alloc_new _ _) rfl rfl (by simp; omega) (by simp; omega) ?_; intro v1 w1 own1 b1; have O1 := Lib.hid own1; have B1 : Hid (Below w.heap.size w w1) := (HB.out.alloc hz _).trans b1; clear own1 b1)
      go_roundw
      case rel => exact ⟨k + 1, by go_num, by omega, by rw [List.replicate_succ']; exact O1, B1⟩
      case measure => simp [intOf]; omega
    · have hkN : k = N := by omega
      subst hkN
      have d : decide ((k : Int) < (k : Int)) = false := by simp
      rcases HO.out.low with ⟨-, hnil⟩ | ⟨g, cap, rfl, g0, g1, hc⟩
      · have := congrArg List.length hnil
        rw [List.length_replicate, List.length_nil] at this
        omega
      have hput := OwnI.put HO.out b 0
      obtain ⟨-, hfz⟩ := OwnI.at HO.out (i := b) (x := -1) (by rw [List.getElem?_replicate, if_pos hb])
      have hcl := (OwnI.at HO.out (i := b) (x := -1) (by rw [List.getElem?_replicate, if_pos hb])).1
      have gb : (b : Int) < (k : Int) := by omega
      have O1 : Hid (OwnI (wr.setCell ⟨g, b, none⟩ (.int .i64 0)) w.heap.size (.slice (some ⟨g, 0, none⟩) k cap) (start k b)) := by
        rw [List.length_replicate] at hput
        exact hput
      have B1 : Hid (Below w.heap.size w (wr.setCell ⟨g, b, none⟩ (.int .i64 0))) := HB.out.setCell g0 _
      have CS := Lib.hid (cst_start L hb)
      have hlr : (List.replicate k (-1 : Int)).length = k := List.length_replicate
      rw [hlr]
      clear HO HB hput hlt hc hk
      go_wp2_with fail
      generalize wr.setCell ⟨g, b, none⟩ (.int .i64 0) = w1 at O1 B1 ⊢
      clear hfz hcl gb d g1
      go_wp2_with fail
      go_loopw [9] (fun r wx => ∃ (q : Nat) (d : List Int), r = .int .i64 q ∧ q ≤ k ∧ Hid ((q < k ∧ Cst k b L q 0 d) ∨ (q = k ∧ d = costL k L b)) ∧ Hid (OwnI wx w.heap.size (.slice (some ⟨g, 0, none⟩) k cap) d) ∧ Hid (Below w.heap.size w wx)) (fun r _ => k - (intOf r).toNat)
      case atStart => exact ⟨0, _, rfl, Nat.zero_le _, Lib.hid (.inl ⟨by omega, CS.out⟩), O1, B1⟩
      case round =>
        clear CS O1 B1
        obtain ⟨q, d, rfl, hq, HC, HO, HB⟩ := hrel
        by_cases hlt : q < k
        · have HC1 : Hid (Cst k b L q 0 d) := by
            rcases HC.out with h | h
            · exact h.2
            · exact absurd h.1 (by omega)
          have gq : (q : Int) < (k : Int) := by omega
          clear HC
          go_wp2_with fail
          go_loopw [10] (fun i wy => ∃ (j : Nat) (d' : List Int), i = .int .i64 j ∧ j ≤ L.length ∧ Hid (Cst k b L q j d') ∧ Hid (OwnI wy w.heap.size (.slice (some ⟨g, 0, none⟩) k cap) d') ∧ Hid (Below w.heap.size w wy)) (fun i _ => L.length - (intOf i).toNat)
          case atStart => exact ⟨0, d, rfl, Nat.zero_le _, HC1, HO, HB⟩
          case round =>
            clear HC1 HO HB gq
            obtain ⟨j, d', rfl, hj, HC, HO, HB⟩ := hrel
            have hdl := HC.out.len
            by_cases hlt2 : j < L.length
            · obtain ⟨e, he⟩ := at_lt hlt2
              obtain ⟨b0, o, rfl, hb0, m0, m1, m2⟩ := three_at de_len H.out he rfl
              have hin := HI.out e (List.mem_iff_getElem?.2 ⟨j, he⟩)
              have hwe := HW.out e (List.mem_iff_getElem?.2 ⟨j, he⟩)
              have ST := Lib.hid (HC.out.step HW.out he)
              obtain ⟨x, y, z⟩ := e
              simp only at m0 m1 m2 hin hwe
              have r0 := (HB.out.cell (p := ⟨b0, o + j * 3, none⟩) hb0).trans m0
              have r1 := (HB.out.cell (p := ⟨b0, o + j * 3 + 1, none⟩) hb0).trans m1
              have r2 := (HB.out.cell (p := ⟨b0, o + j * 3 + 2, none⟩) hb0).trans m2
              have gj : (j : Int) < (L.length : Int) := by omega
              obtain ⟨dx, hdx⟩ := at_lt (l := d') (k := x) (by omega)
              obtain ⟨dy, hdy⟩ := at_lt (l := d') (k := y) (by omega)
              have ex := getD_of hdx
              have ey := getD_of hdy
              have ly := HC.out.low y
              have ty := HC.out.top y
              rw [ey] at ly ty
              have HO' := HO.out
              rw [← hdl] at HO'
              obtain ⟨cx, fx⟩ := OwnI.at HO' hdx
              obtain ⟨cy, -⟩ := OwnI.at HO' hdy
              have hg1 : g < wr.heap.size := by
                rcases HO.out.low with ⟨h, -⟩ | ⟨g', c', h, _, h1, _⟩
                · cases h
                · cases h; exact h1
              have hz := HB.out.size
              have gx : (x : Int) < (k : Int) := by omega
              have gy : (y : Int) < (k : Int) := by omega
              have hz1 : (z : Int) ≤ 1073741824 := by omega
              have B2 : Hid (∀ o, Below w.heap.size w (wr.alloc o)) := fun o => HB.out.alloc hz o
              have O2 : Hid (∀ o, OwnI (wr.alloc o) w.heap.size (.slice (some ⟨g, 0, none⟩) k cap) d') := fun o => HO.out.below ((Below.refl _ _).alloc (Nat.le_refl _) _)
              have ty2 : dy ≤ 36591746972385280 := by omega
              clear m0 m1 m2 he HO' ty hdy HO HB
              by_cases hn : dy < 0
              · have E := Lib.hid (relax_none (d := d') (e := (x, y, z)) (by show d'.getD y (-1) < 0; rw [ey]; exact hn))
                clear ex ey ly ty2 hdx cx fx
                go_wp2_with fail
                go_roundw
                case rel => exact ⟨j + 1, d', by go_num, by omega, by have := ST.out; rw [E.out] at this; exact this, Lib.hid (O2.out _), Lib.hid (B2.out _)⟩
                case measure => simp [intOf]; omega
              · have hn' : decide (dy < 0) = false := decide_eq_false hn
                have hn0 : 0 ≤ dy := by omega
                obtain ⟨s, hs⟩ : ∃ s, dy + (z : Int) * 128 + 1 = s := ⟨_, rfl⟩
                have HS := Lib.hid hs
                clear hn ly hs
                go_wp2_with fail
                go_quiet (fail)
                have W3 : Hid (dy + (z : Int) * 128 + 1 = s) := HS.out
                rw [HS.out]
                have rb := heap_alloc_new wr (.cells #[.int .i64 (x : Int), .int .i64 (y : Int), .int .i64 (z : Int)] 45 (0, 0))
                have O3 : Hid (OwnI ((wr.alloc (.cells #[.int .i64 (x : Int), .int .i64 (y : Int), .int .i64 (z : Int)] 45 (0, 0))).drewN nq) w.heap.size (.slice (some ⟨g, 0, none⟩) k cap) d') := OwnI.below (O2.out _) (below_drewN (Below.refl _ _) nq)
                have B3 : Hid (Below w.heap.size w ((wr.alloc (.cells #[.int .i64 (x : Int), .int .i64 (y : Int), .int .i64 (z : Int)] 45 (0, 0))).drewN nq)) := below_drewN (B2.out _) nq
                have rb2 : ((wr.alloc (.cells #[.int .i64 (x : Int), .int .i64 (y : Int), .int .i64 (z : Int)] 45 (0, 0))).drewN nq).heap[wr.heap.size]? = _ := rb
                generalize (wr.alloc (.cells #[.int .i64 (x : Int), .int .i64 (y : Int), .int .i64 (z : Int)] 45 (0, 0))).drewN nq = w3 at O3 B3 rb2 ⊢
                have n0 : w3.cell? ⟨wr.heap.size, 0, none⟩ = some (.int .i64 (x : Int)) := by rw [cell_of_row _ _ 0 _ _ _ rb2]; rfl
                have O3' := O3.out
                rw [← hdl] at O3'
                obtain ⟨cx3, fx3⟩ := OwnI.at O3' hdx
                have hput := OwnI.put O3' x s
                clear rb rb2 O3' cx cy fx r0 r1 r2 B2 O2
                have hgw : w.heap.size ≤ g := by
                  rcases O3.out.low with ⟨h, -⟩ | ⟨g', c', h, h1, _, _⟩
                  · cases h
                  · cases h; exact h1
                by_cases h1 : dx < 0
                · have E := Lib.hid (relax_set (d := d') (e := (x, y, z)) (by show ¬ d'.getD y (-1) < 0; rw [ey]; omega) (.inl (by show d'.getD x (-1) < 0; rw [ex]; exact h1)))
                  have O4 : Hid (OwnI (w3.setCell ⟨g, x, none⟩ (.int .i64 s)) w.heap.size (.slice (some ⟨g, 0, none⟩) k cap) (relax d' (x, y, z))) := by
                    rw [E.out]
                    simp only
                    rw [ey, HS.out]
                    rw [hdl] at hput
                    exact hput
                  have B4 : Hid (Below w.heap.size w (w3.setCell ⟨g, x, none⟩ (.int .i64 s))) := B3.out.setCell hgw _
                  clear ex ey hput E HS W3 O3 B3
                  go_wp2_with fail
                  go_roundw
                  case rel => exact ⟨j + 1, _, by go_num, by omega, ST, O4, B4⟩
                  case measure => simp [intOf]; omega
                · have f1 : decide (dx < 0) = false := decide_eq_false h1
                  by_cases h2 : s < dx
                  · have E := Lib.hid (relax_set (d := d') (e := (x, y, z)) (by show ¬ d'.getD y (-1) < 0; rw [ey]; omega) (.inr (by show d'.getD y (-1) + (z : Int) * 128 + 1 < d'.getD x (-1); rw [ex, ey, HS.out]; exact h2)))
                    have O4 : Hid (OwnI (w3.setCell ⟨g, x, none⟩ (.int .i64 s)) w.heap.size (.slice (some ⟨g, 0, none⟩) k cap) (relax d' (x, y, z))) := by
                      rw [E.out]
                      simp only
                      rw [ey, HS.out]
                      rw [hdl] at hput
                      exact hput
                    have B4 : Hid (Below w.heap.size w (w3.setCell ⟨g, x, none⟩ (.int .i64 s))) := B3.out.setCell hgw _
                    clear ex ey hput E HS W3 O3 B3 h1
                    go_wp2_with fail
                    go_roundw
                    case rel => exact ⟨j + 1, _, by go_num, by omega, ST, O4, B4⟩
                    case measure => simp [intOf]; omega
                  · have f2 : decide (s < dx) = false := decide_eq_false h2
                    have E := Lib.hid (relax_keep (d := d') (e := (x, y, z)) (by show ¬ d'.getD y (-1) < 0; rw [ey]; omega) (by show ¬ (d'.getD x (-1) < 0 ∨ d'.getD y (-1) + (z : Int) * 128 + 1 < d'.getD x (-1)); rw [ex, ey, HS.out]; omega))
                    clear ex ey hput HS W3 h1 h2
                    go_wp2_with fail
                    go_roundw
                    case rel => exact ⟨j + 1, d', by go_num, by omega, by have := ST.out; rw [E.out] at this; exact this, O3, B3⟩
                    case measure => simp [intOf]; omega
            · have d0 : decide (j < L.length) = false := by rw [decide_eq_false_iff_not]; exact hlt2
              have hjl : j = L.length := by omega
              have HC2 : Hid ((q + 1 < k ∧ Cst k b L (q + 1) 0 d') ∨ (q + 1 = k ∧ d' = costL k L b)) := by
                have hc := HC.out
                rw [hjl] at hc
                rcases Nat.lt_or_ge (q + 1) k with h | h
                · exact .inl ⟨h, hc.round hL h⟩
                · have h' : q + 1 = k := by omega
                  exact .inr ⟨h', hc.last h'⟩
              clear hlt2 HC hjl
              go_wp2_with fail
              go_roundw
              case rel => exact ⟨q + 1, d', by go_num, by omega, HC2, HO, HB⟩
              case measure => simp [intOf]; omega
        · have d0 : decide (q < k) = false := by rw [decide_eq_false_iff_not]; exact hlt
          have E : Hid (d = costL k L b) := by
            rcases HC.out with h | h
            · exact absurd h.1 hlt
            · exact h.2
          clear hlt HC
          go_wp2_with fail
          go_ret
          exact ⟨_, rfl, by rw [← E.out]; exact HO.out, HB.out⟩
end Go.Proofs.Ytahbgafjljfndaa
