/-
  The reference's turned and costs of graphs: what each call answers; nothing that existed before the call has changed behind it. Condition: a checked graph.
-/
import Derived.Test.YtahbgafjljfndaaRChk
import Derived.BigRegion
import Derived.Deep.RegionLaw
namespace Go.Proofs.Ytahbgafjljfndaa
open Go.RowKit

abbrev OwnRd := @OwnG Ed de 45 3
abbrev OwnEd := @OwnG Ed de 47 3
theorem turn_take {L : List Ed} {k : Nat} {e : Ed} (h : L[k]? = some e) : turnL (L.take (k + 1)) = turnL (L.take k) ++ [(e.2.1, e.1, e.2.2)] := by
  unfold turnL
  rw [take_at L k e h, List.map_append]
  rfl
set_option maxRecDepth 100000 in
set_option maxHeartbeats 4000000 in
/-- The reference's turned. -/
theorem rturned_any (v : Value) (L : List Ed) (hl : L.length ≤ 4096) (w : World) (h : LstD w v L) : Calls Try.prog 27 #[v] w fun e w' => ∃ u, e = .returned u ∧ OwnRd w' w.heap.size u (turnL L) ∧ Below w.heap.size w w' := by
  have H := Lib.hid h
  obtain ⟨A, c, rfl, -, -, -⟩ := h
  go_enter Try.func27, Try.ntmps27
  go_wp2_with fail
  go_loopw [3, 4] (fun u i wr => ∃ k : Nat, i = .int .i64 k ∧ k ≤ L.length ∧ Hid (OwnRd wr w.heap.size u (turnL (L.take k))) ∧ Hid (Below w.heap.size w wr)) (fun _ i _ => L.length - (intOf i).toNat)
  case atStart => exact ⟨0, rfl, Nat.zero_le _, Lib.hid (OwnG.nil _ _ _ _ _), Lib.hid (Below.refl _ _)⟩
  case round =>
    obtain ⟨k, rfl, hk, HO, HB⟩ := hrel
    by_cases hlt : k < L.length
    · obtain ⟨e, he⟩ := at_lt hlt
      obtain ⟨b, o, rfl, hb, m0, m1, m2⟩ := three_at de_len H.out he rfl
      obtain ⟨x, y, z⟩ := e
      simp only at m0 m1 m2
      have r0 := (HB.out.cell (p := ⟨b, o + k * 3, none⟩) hb).trans m0
      have r1 := (HB.out.cell (p := ⟨b, o + k * 3 + 1, none⟩) hb).trans m1
      have r2 := (HB.out.cell (p := ⟨b, o + k * 3 + 2, none⟩) hb).trans m2
      have gk : (k : Int) < (L.length : Int) := by omega
      have hz := HB.out.size
      have TT := Lib.hid (turn_take he)
      have hlen : (turnL (L.take k)).length ≤ 4096 := by unfold turnL; rw [List.length_map, List.length_take]; omega
      clear he m0 m1 m2
      go_wp2_with fail
      go_region_law (first | (refine stepG_one de_len de_one (by decide) Try.underlying22 info_rd rfl (by decide) _ rfl _ _ rfl w.heap.size _ (turnL (L.take k)) (y, x, z) rfl (World.ownsRow.alloc HO.out _) wr.heap.size _ (heap_alloc_new _ _) rfl rfl (by simp; omega) (by omega) ?_
                              intro v1 w1 own1 b1 gr1
                              have O1 := Lib.hid own1
                              have B1 : Hid (Below w.heap.size w w1) := (HB.out.alloc (by omega) _).drew.trans b1
                              clear own1 b1 gr1))
      all_goals
        go_wp2_with fail
        go_roundw
        case rel => exact ⟨k + 1, by go_num, by omega, by rw [TT.out]; exact O1, B1⟩
        case measure => simp [intOf]; omega
    · have E : Hid (OwnRd wr w.heap.size u3 (turnL L)) := by
        have := HO.out
        rw [List.take_of_length_le (by omega)] at this
        exact this
      have d : decide (k < L.length) = false := by rw [decide_eq_false_iff_not]; exact hlt
      clear hlt HO
      go_wp2_with fail
      go_ret
      exact ⟨_, rfl, E.out, HB.out⟩
/-- No entry is above. -/
def Bd (d : List Int) (M : Int) : Prop := ∀ i, d.getD i (-1) ≤ M
theorem bd_relax {d : List Int} {M : Int} {e : Ed} (h : Bd d M) (_ : 0 ≤ M) (he : e.2.2 ≤ 1073741824) : Bd (relax d e) (M + 137438953473) := by
  intro i
  have h1 := h i
  have h2 := h e.2.1
  unfold relax
  split
  · omega
  · split
    · rw [getD_set]
      split
      · omega
      · omega
    · omega
theorem low_relax {d : List Int} {e : Ed} (h : ∀ i, -1 ≤ d.getD i (-1)) : ∀ i, -1 ≤ (relax d e).getD i (-1) := by
  intro i
  have h1 := h i
  have h2 := h e.2.1
  unfold relax
  split
  · exact h1
  · split
    · rw [getD_set]
      split
      · omega
      · exact h1
    · exact h1
theorem relax_none {d : List Int} {e : Ed} (h : d.getD e.2.1 (-1) < 0) : relax d e = d := by unfold relax; rw [if_pos h]
theorem relax_set {d : List Int} {e : Ed} (h : ¬ d.getD e.2.1 (-1) < 0) (h2 : d.getD e.1 (-1) < 0 ∨ d.getD e.2.1 (-1) + (e.2.2 : Int) * 128 + 1 < d.getD e.1 (-1)) : relax d e = d.set e.1 (d.getD e.2.1 (-1) + (e.2.2 : Int) * 128 + 1) := by unfold relax; rw [if_neg h, if_pos h2]
theorem relax_keep {d : List Int} {e : Ed} (h : ¬ d.getD e.2.1 (-1) < 0) (h2 : ¬ (d.getD e.1 (-1) < 0 ∨ d.getD e.2.1 (-1) + (e.2.2 : Int) * 128 + 1 < d.getD e.1 (-1))) : relax d e = d := by unfold relax; rw [if_neg h, if_neg h2]
theorem getD_of {d : List Int} {i : Nat} {x : Int} (h : d[i]? = some x) : d.getD i (-1) = x := by rw [List.getD_eq_getElem?_getD, h]; rfl
/-- What the rounds have made so far. -/
structure Cst (N b : Nat) (L : List Ed) (k j : Nat) (d : List Int) : Prop where
  len : d.length = N
  low : ∀ i, -1 ≤ d.getD i (-1)
  top : Bd d ((k : Int) * 562949953425408 + (j : Int) * 137438953473)
  fin : relaxN L (N - k - 1) (relaxL (L.drop j) d) = costL N L b
theorem Cst.step {N b : Nat} {L : List Ed} {k j : Nat} {d : List Int} (h : Cst N b L k j d) (hw : ∀ e ∈ L, e.2.2 ≤ 1073741824) {e : Ed} (he : L[j]? = some e) : Cst N b L k (j + 1) (relax d e) := by
  refine ⟨by rw [relax_length]; exact h.len, low_relax h.low, fun i => ?_, ?_⟩
  · have := bd_relax h.top (by omega) (hw e (List.mem_iff_getElem?.2 ⟨j, he⟩)) i
    omega
  · have := h.fin
    rw [drop_at L j e he] at this
    exact this
theorem Cst.round {N b : Nat} {L : List Ed} {k : Nat} {d : List Int} (hL : L.length ≤ 4096) (h : Cst N b L k L.length d) (hk : k + 1 < N) : Cst N b L (k + 1) 0 d := by
  refine ⟨h.len, h.low, fun i => ?_, ?_⟩
  · have := h.top i
    omega
  · have := h.fin
    rw [List.drop_length] at this
    rw [show N - k - 1 = (N - (k + 1) - 1) + 1 by omega] at this
    exact this
theorem Cst.last {N b : Nat} {L : List Ed} {k : Nat} {d : List Int} (h : Cst N b L k L.length d) (hk : k + 1 = N) : d = costL N L b := by
  have := h.fin
  rw [List.drop_length, show N - k - 1 = 0 by omega] at this
  exact this
theorem cst_start {N b : Nat} (L : List Ed) (hb : b < N) : Cst N b L 0 0 (start N b) := by
  have hg : ∀ i, (start N b).getD i (-1) = 0 ∨ (start N b).getD i (-1) = -1 := by
    intro i
    unfold start
    rw [getD_set]
    split
    · exact .inl rfl
    · right
      rw [List.getD_eq_getElem?_getD, List.getElem?_replicate]
      split <;> rfl
  refine ⟨by unfold start; rw [List.length_set, List.length_replicate], fun i => ?_, fun i => ?_, ?_⟩
  · rcases hg i with h | h <;> omega
  · rcases hg i with h | h <;> omega
  · unfold costL
    rw [show N = (N - 0 - 1) + 1 by omega]
    rfl
end Go.Proofs.Ytahbgafjljfndaa
