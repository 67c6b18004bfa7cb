/-
  edges: the footpaths that count as edges, of those between the same stops the shortest one: what the call answers. Condition: lists of at most 100000 footpaths.
-/
import Derived.Test.YtibakhobgfiklaaFpP
import Derived.Test.YtibakhobgfiklaaFpW
import Derived.Test.YtibakhobgfiklaaMd
namespace Go.Proofs.Ytibakhobgfiklaa
open Go.RowKit Go.Sort

theorem idx_none (fv : Value) (w : World) : Calls Try.prog 77 #[.slice none 0 0, fv] w fun e w' => e = .returned (.int .i64 (-1)) ∧ w = w' := by
  go_enter Try.func77, Try.ntmps77
  go_wp2_with fail
  refine wp_loop_rounds 1 ?_
  rw [rounds_succ]
  go_wp2_with fail
  go_ret
  exact ⟨rfl, rfl⟩
theorem del_none (B : Nat) (w : World) : Calls Try.prog 64 #[.slice none 0 0, delV B] w fun e w' => e = .returned (.slice none 0 0) ∧ w = w' := by
  have C := Lib.hid (idx_none (delV B) w)
  go_enter Try.func64, Try.ntmps64
  go_wp2_with fail
  refine C.out.mono ?_
  rintro e w1 ⟨rfl, rfl⟩
  go_wp2_with fail
  go_ret
  exact ⟨rfl, rfl⟩
/-- At whatever row. -/
theorem del_all (base : Nat) (v : Value) (B : Nat) (sf : Bool) (l : List Fp) (hl : l.length ≤ 100000000) (w : World) (h : OwnF w base v l) (hs : base ≤ w.heap.size) (hB : B < base) (hc : w.cell? ⟨B, 0, none⟩ = some (.bool sf)) :
    Calls Try.prog 64 #[v, delV B] w fun e w' => ∃ v', e = .returned v' ∧ OwnF w' base v' (l.filter (useP sf)) ∧ RowKit.Below base w w' := by
  rcases h.low with ⟨rfl, rfl⟩ | ⟨g, c, rfl, -⟩
  · refine (del_none B w).mono ?_
    rintro e w' ⟨rfl, rfl⟩
    exact ⟨_, rfl, h, RowKit.Below.refl _ _⟩
  · exact del_any base g l.length c B sf l rfl hl w h hs hB hc
/-- A footpath as an edge that came in. -/
def er3 (x : Fp) : Er := (x.1, x.2.1, x.2.2.1)
abbrev OwnX := @OwnG Er er 90 3
set_option maxRecDepth 100000 in
set_option maxHeartbeats 2000000 in
theorem edges_any (v : Value) (l : List Fp) (hl : l.length ≤ 100000) (sf : Bool) (w : World) (h : LstF w v l) :
    Calls Try.prog 45 #[v, .bool sf] w fun e w' => ∃ v' r, e = .returned v' ∧ EdgS sf l r ∧ LstR w' v' (r.map er3) ∧ RowKit.Below w.heap.size w w' := by
  have hh := h
  obtain ⟨A, c, rfl, -⟩ := hh
  obtain ⟨w1, hw1⟩ : ∃ W, w.alloc (.cells #[.bool sf] 4 (0, 0)) = W := ⟨_, rfl⟩
  have b1 : RowKit.Below w.heap.size w w1 := by rw [← hw1]; exact (RowKit.Below.refl _ _).alloc (Nat.le_refl _) _
  have c1 : w1.heap[w.heap.size]? = some (.cells #[.bool sf] 4 (0, 0)) := by rw [← hw1]; exact heap_alloc_new w _
  have m1 : w1.cell? ⟨w.heap.size, 0, none⟩ = some (.bool sf) := by rw [cell_of_row _ _ 0 _ _ _ c1]; rfl
  have z1 : w1.heap.size = w.heap.size + 1 := by rw [← hw1]; simp
  have CL := Lib.hid (clone_any (.slice A l.length c) l (by omega) w1 (h.below b1))
  have B1 := Lib.hid b1
  have M1 := Lib.hid m1
  have Z1 := Lib.hid z1
  have HL := Lib.hid hl
  clear h b1 c1 m1 z1
  go_enter Try.func45, Try.ntmps45
  go_wp2_with fail
  refine CL.out.mono ?_
  rintro e w2 ⟨v2, rfl, o2, b2⟩
  have m2 := (b2.cell (p := ⟨w.heap.size, 0, none⟩) (by have := Z1.out; show w.heap.size < _; omega)).trans M1.out
  have DL := Lib.hid (del_all w1.heap.size v2 w.heap.size sf l (by omega) w2 o2 b2.size (by have := Z1.out; omega) m2)
  have B2 := Lib.hid b2
  obtain ⟨A2, c2, rfl, -⟩ := ownK_shape o2
  clear CL o2 b2 m2 hw1 hl
  go_wp2_with fail
  refine DL.out.mono ?_
  rintro e w3 ⟨v3, rfl, o3, b3⟩
  have B3 := Lib.hid (B2.out.trans b3)
  have SO := Lib.hid (sort_any w1.heap.size v3 (l.filter (useP sf)) (by have := List.length_filter_le (useP sf) l; have := HL.out; omega) w3 o3 B3.out.size)
  obtain ⟨A3, c3, rfl, -⟩ := ownK_shape o3
  clear DL o3 b3 B2
  go_wp2_with fail
  refine SO.out.mono ?_
  rintro e w4 ⟨rfl, r0, s0, o4, b4⟩
  have B4 := Lib.hid (B3.out.trans b4)
  have l0 : r0.length = (l.filter (useP sf)).length := s0.perm.length_eq
  have CP := Lib.hid (sameE_any w1.heap.size _ r0 (by have := List.length_filter_le (useP sf) l; have := HL.out; omega) w4 o4 B4.out.size)
  have S0 := Lib.hid s0
  rw [← l0] at CP
  obtain ⟨n0, hn0⟩ : ∃ n0, (l.filter (useP sf)).length = n0 := ⟨_, rfl⟩
  rw [l0, hn0] at CP
  rw [hn0]
  clear SO o4 b4 B3 s0 l0
  go_wp2_with fail
  refine CP.out.mono ?_
  rintro e w5 ⟨v5, rfl, o5, b5⟩
  have E5 : Hid (EdgS sf l (cpF sameE r0)) := ⟨r0, S0.out, rfl⟩
  obtain ⟨r, hr⟩ : ∃ r, cpF sameE r0 = r := ⟨_, rfl⟩
  rw [hr] at o5 E5
  have hrl : r.length ≤ 100000 := Nat.le_trans E5.out.len HL.out
  have H5 := Lib.hid (OwnG.lst o5)
  have B5 : Hid (RowKit.Below w.heap.size w w5) := B1.out.trans ((B4.out.trans b5).mono B1.out.size)
  obtain ⟨A5, c5, rfl, -⟩ := ownK_shape o5
  clear CP o5 b5 B4 S0 hr hn0
  go_wp2_with fail
  go_loopw [6, 19] (fun u i wr => ∃ k : Nat, i = .int .i64 (k : Int) ∧ k ≤ r.length ∧ Hid (OwnX wr w5.heap.size u ((r.take k).map er3)) ∧ Hid (RowKit.Below w5.heap.size w5 wr)) (fun _ i _ => r.length - (intOf i).toNat)
  case atStart => exact ⟨0, rfl, Nat.zero_le _, Lib.hid (OwnG.nil _ _ _ _ _), Lib.hid (RowKit.Below.refl _ _)⟩
  case round =>
    obtain ⟨k, rfl, hk, HO, HB⟩ := hrel
    by_cases hlt : k < r.length
    · obtain ⟨⟨xa, xb, xs, xf⟩, hx⟩ := at_lt hlt
      obtain ⟨b, o, rfl, hb, m0, m1, m2, m3⟩ := four_at (H5.out.below HB.out) hx
      obtain ⟨w7, hw7⟩ : ∃ W, wr.alloc (boxF xa xb xs xf) = W := ⟨_, rfl⟩
      obtain ⟨b7, p0, p1, p2, p3, s7, c7⟩ := box_fp hw7
      obtain ⟨y0, y1⟩ := box_last hw7
      have gk : (k : Int) < (r.length : Int) := by omega
      have O7 := Lib.hid (HO.out.below b7)
      have B7 := Lib.hid (HB.out.trans (b7.mono HB.out.size))
      have hz7 := B7.out.size
      have hll : ((r.take k).map er3).length ≤ 100000 := by rw [List.length_map, List.length_take]; omega
      have tk : (r.take (k + 1)).map er3 = (r.take k).map er3 ++ [(xa, xb, xs)] := by rw [take_at r k _ hx, List.map_append]; rfl
      have TK := Lib.hid tk
      clear hx hb b7 c7 s7 HO HB tk
      go_wp2_with (at_builtin; refine appG_one er_len er_one (by decide) Try.underlying65 info_ed rfl (by decide) _ rfl (.tmp 23) (.tmp 31) rfl w5.heap.size _ ((r.take k).map er3) (xa, xb, xs) rfl (World.ownsRow.alloc O7.out _) w7.heap.size _ (heap_alloc_new _ _) rfl rfl (by simp; omega) (by omega) ?_; intro u2 w10 own10 b10 _ _; refine Hid.out ?_)
      refine Lib.hid ?_
      have O10 := Lib.hid own10
      rw [← TK.out] at O10
      have B10 := Lib.hid ((B7.out.alloc hz7 _).trans b10)
      clear own10 b10 O7 B7 hll hz7 hw7 p0 p1 p2 p3 m0 m1 m2 m3 y0 y1
      go_wp2_with fail
      go_roundw
      case rel => exact ⟨k + 1, by go_num, by omega, O10, B10⟩
      case measure => simp [intOf]; omega
    · have d : decide (k < r.length) = false := by rw [decide_eq_false_iff_not]; exact hlt
      have K : Hid (LstR wr u6 (r.map er3) ∧ RowKit.Below w.heap.size w wr) := by
        have := HO.out
        rw [List.take_of_length_le (by omega)] at this
        exact ⟨OwnG.lst this, B5.out.trans (HB.out.mono B5.out.size)⟩
      clear hlt HO HB
      go_wp2_with fail
      go_ret
      exact ⟨_, r, rfl, E5.out, K.out⟩
end Go.Proofs.Ytibakhobgfiklaa
