/-
  The laws BinencStrings and BinencPuts: true for every input, nothing that existed has changed. Condition: none beyond each theorem's own hypotheses.
-/
import Derived.Test.YteojfgpinmpocaaEC
namespace Go.Proofs.Yteojfgpinmpocaa
open Go.RowKit

set_option maxRecDepth 100000 in
set_option maxHeartbeats 4000000 in
theorem strings_law (v : Value) (l : List UInt8) (_ : l.length ≤ 9223372036854775807) (v' : Value) (l' : List Int) (_ : l'.length ≤ 9223372036854775807) (hi : ∀ x ∈ l', I64 x) (w : World) (h : LstB w v l) (h' : LstI w v' l') : Calls Try.prog 4 #[v, v'] w fun e w' => e = .returned (.bool true) ∧ Below w.heap.size w w' := by
  have X := Lib.hid (fun W => ex_any W)
  by_cases h1 : 4096 < l.length
  · obtain ⟨A, c, rfl, -⟩ := h
    obtain ⟨A', c', rfl, -⟩ := h'
    have g : (4096 : Int) < (l.length : Int) := by omega
    clear h1
    go_enter Try.func4, Try.ntmps4
    go_wp2_with fail
    refine (X.out _).mono ?_
    rintro e w1 ⟨rfl, b1⟩
    go_wp2_with fail
    go_ret
    exact ⟨rfl, b1⟩
  have g1 : decide ((4096 : Int) < (l.length : Int)) = false := by simp; omega
  by_cases h2 : 200 < l'.length
  · obtain ⟨A, c, rfl, -⟩ := h
    obtain ⟨A', c', rfl, -⟩ := h'
    have g : (200 : Int) < (l'.length : Int) := by omega
    clear h1 h2
    go_enter Try.func4, Try.ntmps4
    go_wp2_with fail
    refine (X.out _).mono ?_
    rintro e w1 ⟨rfl, b1⟩
    go_wp2_with fail
    go_ret
    exact ⟨rfl, b1⟩
  have g2 : decide ((200 : Int) < (l'.length : Int)) = false := by simp; omega
  have C1 := Lib.hid (fun W (hb : Below w.heap.size w W) => pbytes_any v l (by omega) W (h.below hb))
  have C2 := Lib.hid (fun W (hb : Below w.heap.size w W) => rpbytes_any v l (by omega) W (h.below hb))
  have C3 := Lib.hid (fun W (hb : Below w.heap.size w W) => pints_any v' l' (by omega) hi W (h'.below hb))
  have C4 := Lib.hid (fun W (hb : Below w.heap.size w W) => rpints_any v' l' (by omega) hi W (h'.below hb))
  generalize putB l = P1 at C1 C2
  generalize putL l' = P2 at C3 C4
  obtain ⟨s1, E1⟩ : ∃ s, str P1 = s := ⟨_, rfl⟩
  obtain ⟨s2, E2⟩ : ∃ s, str P2 = s := ⟨_, rfl⟩
  have S1 := Lib.hid E1
  have S2 := Lib.hid E2
  obtain ⟨A, c, rfl, -⟩ := h
  obtain ⟨A', c', rfl, -⟩ := h'
  clear h1 h2 hi E1 E2
  go_enter Try.func4, Try.ntmps4
  go_wp2_with fail
  refine wp_region_held_drew (S := fun W => Below w.heap.size w W) (by kernel_rfl) ((Below.refl _ _).drew) (fun hHeld => ?_)
  have hB0 := Lib.hid hHeld
  refine takeH (i := 0) (v := ?_) 14 rfl rfl (by kernel_rfl) (by kernel_rfl) (by kernel_rfl) (fun _ _ _ h => h) (Or.inl ⟨by rfl, ?_⟩) (by assumption) ?_
  rotate_left 1
  · intro W hW
    go_simp
    try with_reducible rfl
  simp only [Act.put, List.setIfInBounds_toArray, List.set_cons_zero, List.set_cons_succ]
  refine takeH (i := 3) (v := ?_) 17 rfl rfl (by kernel_rfl) (by kernel_rfl) (by kernel_rfl) (fun _ _ _ h => h) (Or.inl ⟨by rfl, ?_⟩) (by assumption) ?_
  rotate_left 1
  · intro W hW
    go_simp
    try with_reducible rfl
  simp only [Act.put, List.setIfInBounds_toArray, List.set_cons_zero, List.set_cons_succ]
  refine wpAnyH_ready (rs := [1]) (by kernel_rfl) (by simp) ?_
  refine AllReadyH.cons rfl (fun K hK => ?_) AllReadyH.nil
  go_simp
  refine (C1.out _ hB0.out).mono ?_
  rintro e x1 ⟨u1, rfl, o1, y1⟩
  have hB1 := Lib.hid (bel_on hB0.out y1)
  refine hK.out _ _ (hB1.out) (fun _ => ?_)
  clear hK K hHeld
  refine wpAnyH_behind (w := x1) (hB1.out) ?_
  have hHeld := Below.refl x1.heap.size x1
  refine takeH (i := 2) (v := ?_) 16 rfl rfl (by kernel_rfl) (by kernel_rfl) (by kernel_rfl) (fun _ _ _ h => h) (Or.inl ⟨by rfl, ?_⟩) (by assumption) ?_
  rotate_left 1
  · intro W hW
    have k := conv_lit (own_on hW o1) S1.out
    go_simp
    try with_reducible rfl
  simp only [Act.put, List.setIfInBounds_toArray, List.set_cons_zero, List.set_cons_succ]
  refine wpAnyH_ready (rs := [4]) (by kernel_rfl) (by simp) ?_
  refine AllReadyH.cons rfl (fun K hK => ?_) AllReadyH.nil
  go_simp
  refine (C2.out _ hB1.out).mono ?_
  rintro e x2 ⟨u2, rfl, o2, y2⟩
  have hB2 := Lib.hid (bel_on hB1.out y2)
  have hS2 := bel_on hHeld y2
  refine hK.out _ _ hS2 (fun _ => ?_)
  refine wpAnyH_behind (w := x2) hS2 ?_
  clear hK K hHeld hS2
  have hHeld := Below.refl x2.heap.size x2
  refine takeH (i := 5) (v := ?_) 19 rfl rfl (by kernel_rfl) (by kernel_rfl) (by kernel_rfl) (fun _ _ _ h => h) (Or.inl ⟨by rfl, ?_⟩) (by assumption) ?_
  rotate_left 1
  · intro W hW
    have k := conv_lit (own_on hW o2) S1.out
    go_simp
    try with_reducible rfl
  simp only [Act.put, List.setIfInBounds_toArray, List.set_cons_zero, List.set_cons_succ]
  refine takeH (i := 6) (v := ?_) 20 rfl rfl (by kernel_rfl) (by kernel_rfl) (by kernel_rfl) (fun _ _ _ h => h) (Or.inl ⟨by rfl, ?_⟩) (by assumption) ?_
  rotate_left 1
  · intro W hW
    go_simp
    try with_reducible rfl
  simp only [Act.put, List.setIfInBounds_toArray, List.set_cons_zero, List.set_cons_succ]
  refine takeH (i := 7) (v := ?_) 21 rfl rfl (by kernel_rfl) (by kernel_rfl) (by kernel_rfl) (fun _ _ _ h => h) (Or.inl ⟨by rfl, ?_⟩) (by assumption) ?_
  rotate_left 1
  · intro W hW
    go_simp
    try with_reducible rfl
  simp only [Act.put, List.setIfInBounds_toArray, List.set_cons_zero, List.set_cons_succ]
  refine takeH (i := 8) (v := ?_) 22 rfl rfl (by kernel_rfl) (by kernel_rfl) (by kernel_rfl) (fun _ _ _ h => h) (Or.inl ⟨by rfl, ?_⟩) (by assumption) ?_
  rotate_left 1
  · intro W hW
    go_simp
    try with_reducible rfl
  simp only [Act.put, List.setIfInBounds_toArray, List.set_cons_zero, List.set_cons_succ]
  refine takeH (i := 11) (v := ?_) 25 rfl rfl (by kernel_rfl) (by kernel_rfl) (by kernel_rfl) (fun _ _ _ h => h) (Or.inl ⟨by rfl, ?_⟩) (by assumption) ?_
  rotate_left 1
  · intro W hW
    go_simp
    try with_reducible rfl
  simp only [Act.put, List.setIfInBounds_toArray, List.set_cons_zero, List.set_cons_succ]
  refine wpAnyH_ready (rs := [9]) (by kernel_rfl) (by simp) ?_
  refine AllReadyH.cons rfl (fun K hK => ?_) AllReadyH.nil
  go_simp
  refine (C3.out _ hB2.out).mono ?_
  rintro e x3 ⟨u3, rfl, o3, y3⟩
  have hB3 := Lib.hid (bel_on hB2.out y3)
  have hS3 := bel_on hHeld y3
  refine hK.out _ _ hS3 (fun _ => ?_)
  refine wpAnyH_behind (w := x3) hS3 ?_
  clear hK K hHeld hS3
  have hHeld := Below.refl x3.heap.size x3
  refine takeH (i := 10) (v := ?_) 24 rfl rfl (by kernel_rfl) (by kernel_rfl) (by kernel_rfl) (fun _ _ _ h => h) (Or.inl ⟨by rfl, ?_⟩) (by assumption) ?_
  rotate_left 1
  · intro W hW
    have k := conv_lit (own_on hW o3) S2.out
    go_simp
    try with_reducible rfl
  simp only [Act.put, List.setIfInBounds_toArray, List.set_cons_zero, List.set_cons_succ]
  refine wpAnyH_ready (rs := [12]) (by kernel_rfl) (by simp) ?_
  refine AllReadyH.cons rfl (fun K hK => ?_) AllReadyH.nil
  go_simp
  refine (C4.out _ hB3.out).mono ?_
  rintro e x4 ⟨u4, rfl, o4, y4⟩
  have hB4 := Lib.hid (bel_on hB3.out y4)
  have hS4 := bel_on hHeld y4
  refine hK.out _ _ hS4 (fun _ => ?_)
  refine wpAnyH_behind (w := x4) hS4 ?_
  clear hK K hHeld hS4
  have hHeld := Below.refl x4.heap.size x4
  refine takeH (i := 13) (v := ?_) 27 rfl rfl (by kernel_rfl) (by kernel_rfl) (by kernel_rfl) (fun _ _ _ h => h) (Or.inl ⟨by rfl, ?_⟩) (by assumption) ?_
  rotate_left 1
  · intro W hW
    have k := conv_lit (own_on hW o4) S2.out
    go_simp
    try with_reducible rfl
  simp only [Act.put, List.setIfInBounds_toArray, List.set_cons_zero, List.set_cons_succ]
  refine takeH (i := 14) (v := ?_) 28 rfl rfl (by kernel_rfl) (by kernel_rfl) (by kernel_rfl) (fun _ _ _ h => h) (Or.inl ⟨by rfl, ?_⟩) (by assumption) ?_
  rotate_left 1
  · intro W hW
    go_simp
    try with_reducible rfl
  simp only [Act.put, List.setIfInBounds_toArray, List.set_cons_zero, List.set_cons_succ]
  refine takeH (i := 15) (v := ?_) 29 rfl rfl (by kernel_rfl) (by kernel_rfl) (by kernel_rfl) (fun _ _ _ h => h) (Or.inl ⟨by rfl, ?_⟩) (by assumption) ?_
  rotate_left 1
  · intro W hW
    go_simp
    try with_reducible rfl
  simp only [Act.put, List.setIfInBounds_toArray, List.set_cons_zero, List.set_cons_succ]
  refine takeH (i := 16) (v := ?_) 30 rfl rfl (by kernel_rfl) (by kernel_rfl) (by kernel_rfl) (fun _ _ _ h => h) (Or.inl ⟨by rfl, ?_⟩) (by assumption) ?_
  rotate_left 1
  · intro W hW
    go_simp
    try with_reducible rfl
  simp only [Act.put, List.setIfInBounds_toArray, List.set_cons_zero, List.set_cons_succ]
  refine wpAnyH_ready (rs := [17]) (by kernel_rfl) (by simp) ?_
  refine AllReadyH.cons rfl (fun K hK => ?_) AllReadyH.nil
  go_simp
  refine (X.out _).mono ?_
  rintro e x5 ⟨rfl, y5⟩
  have hB5 := Lib.hid (bel_on hB4.out y5)
  have hS5 := bel_on hHeld y5
  refine hK.out _ _ hS5 (fun _ => ?_)
  refine wpAnyH_behind (w := x5) hS5 ?_
  clear hK K hHeld hS5
  have hHeld := Below.refl x5.heap.size x5
  refine takeH (i := 18) (v := ?_) 32 rfl rfl (by kernel_rfl) (by kernel_rfl) (by kernel_rfl) (fun _ _ _ h => h) (Or.inl ⟨by rfl, ?_⟩) (by assumption) ?_
  rotate_left 1
  · intro W hW
    go_simp
    try with_reducible rfl
  simp only [Act.put, List.setIfInBounds_toArray, List.set_cons_zero, List.set_cons_succ]
  refine takeH (i := 19) (v := ?_) 4 rfl rfl (by kernel_rfl) (by kernel_rfl) (by kernel_rfl) (fun _ _ _ h => h) (Or.inl ⟨by rfl, ?_⟩) (by assumption) ?_
  rotate_left 1
  · intro W hW
    go_simp
    try with_reducible rfl
  simp only [Act.put, List.setIfInBounds_toArray, List.set_cons_zero, List.set_cons_succ]
  refine wpAnyH_done (by kernel_rfl) ?_ _
  go_wp2_with fail
  go_ret
  exact ⟨rfl, hB5.out⟩
end Go.Proofs.Yteojfgpinmpocaa
