/-
  The laws' helpers: to, large: what each call answers; nothing that existed before the call has changed behind it. Condition: the bounds of each theorem.
-/
import Derived.Test.YtahbgafjljfndaaRPth
import Derived.Test.YtahbgafjljfndaaRCmp
import Derived.Test.YtahbgafjljfndaaSameI
namespace Go.Proofs.Ytahbgafjljfndaa
open Go.RowKit

/-! ### to -/
abbrev OwnR := @OwnG Er er 47 3
set_option maxRecDepth 100000 in
set_option maxHeartbeats 4000000 in
theorem to_any (v : Value) (l : List Er) (hl : l.length ≤ 1000000) (w : World) (h : LstR w v l) : Calls Try.prog 12 #[v] w fun e w' => ∃ u, e = .returned u ∧ LstR w' u l ∧ Below w.heap.size w w' := by
  have H := Lib.hid h
  obtain ⟨A, c, rfl, -, -, -⟩ := h
  go_enter Try.func12, Try.ntmps12
  go_wp2_with fail
  go_loopw [3, 4] (fun u i wr => ∃ k : Nat, i = .int .i64 k ∧ k ≤ l.length ∧ Hid (OwnR wr w.heap.size u (l.take k)) ∧ Hid (Below w.heap.size w wr)) (fun _ i _ => l.length - (intOf i).toNat)
  case atStart => exact ⟨0, rfl, Nat.zero_le _, Lib.hid (OwnG.nil _ _ _ _ _), Lib.hid (Below.refl _ _)⟩
  case round =>
    obtain ⟨k, rfl, hk, HO, HB⟩ := hrel
    by_cases hlt : k < l.length
    · obtain ⟨e, he⟩ := at_lt hlt
      obtain ⟨b, o, rfl, hb, m0, m1, m2⟩ := three_at er_len H.out he rfl
      have r0 := (HB.out.cell (p := ⟨b, o + k * 3, none⟩) hb).trans m0
      have r1 := (HB.out.cell (p := ⟨b, o + k * 3 + 1, none⟩) hb).trans m1
      have r2 := (HB.out.cell (p := ⟨b, o + k * 3 + 2, none⟩) hb).trans m2
      have gk : (k : Int) < (l.length : Int) := by omega
      have hz := HB.out.size
      have TT := Lib.hid (take_at l k e he)
      have hlen : (l.take k).length ≤ 1000000 := by rw [List.length_take]; omega
      clear he m0 m1 m2
      go_wp2_with fail
      go_region_law (first | (refine stepG_one er_len er_one (by decide) Try.underlying29 info_ed rfl (by decide) _ rfl _ _ rfl w.heap.size _ (l.take k) e rfl (World.ownsRow.alloc HO.out _) wr.heap.size _ (heap_alloc_new _ _) rfl rfl (by simp; omega) (by omega) ?_
                              intro v1 w1 own1 b1 gr1
                              have O1 := Lib.hid own1
                              have B1 : Hid (Below w.heap.size w w1) := (HB.out.alloc (by omega) _).drew.trans b1
                              clear own1 b1 gr1))
      all_goals
        go_wp2_with fail
        go_roundw
        case rel => exact ⟨k + 1, by go_num, by omega, by rw [TT.out]; exact O1, B1⟩
        case measure => simp [intOf]; omega
    · have E : Hid (LstR wr u3 l) := by
        have := HO.out
        rw [List.take_of_length_le (by omega)] at this
        exact OwnG.lst this
      have d : decide (k < l.length) = false := by rw [decide_eq_false_iff_not]; exact hlt
      clear hlt HO
      go_wp2_with fail
      go_ret
      exact ⟨_, rfl, E.out, HB.out⟩

/-! ### large -/
def largeB (n : Int) (k : Nat) : Bool := decide (5000 < k ∨ (60 < k ∧ k ≤ 4096) ∨ (12 < n ∧ n ≤ 64))
theorem largeB_not {n : Int} {k : Nat} (h : largeB n k = false) : k ≤ 5000 := by
  have := of_decide_eq_false h
  omega
set_option maxHeartbeats 1000000 in
theorem large_any (n : Int) (v : Value) (l : List Er) (hl : l.length ≤ 9223372036854775807) (w : World) (h : LstR w v l) : Calls Try.prog 9 #[.int .i64 n, v] w fun e w' => e = .returned (.bool (largeB n l.length)) ∧ w = w' := by
  obtain ⟨A, c, rfl, -, -, -⟩ := h
  generalize l.length = k at hl ⊢
  by_cases h1 : 5000 < k
  · have R : Hid (largeB n k = true) := decide_eq_true (.inl h1)
    have g1 : (5000 : Int) < (k : Int) := by omega
    clear h1
    go_enter Try.func9, Try.ntmps9
    go_wp2_with fail
    go_ret
    exact ⟨ret_bool (by rw [R.out]), rfl⟩
  have g1 : decide ((5000 : Int) < (k : Int)) = false := by rw [decide_eq_false_iff_not]; omega
  by_cases h2 : 60 < k ∧ k ≤ 4096
  · have R : Hid (largeB n k = true) := decide_eq_true (.inr (.inl h2))
    have g2 : (60 : Int) < (k : Int) := by omega
    have g3 : (k : Int) ≤ 4096 := by omega
    clear h1 h2
    go_enter Try.func9, Try.ntmps9
    go_wp2_with fail
    go_ret
    exact ⟨ret_bool (by rw [R.out]), rfl⟩
  have fin : Hid (largeB n k = decide (12 < n ∧ n ≤ 64)) := by
    show _ = _
    unfold largeB
    apply decide_eq_decide.2
    omega
  by_cases h4 : 12 < n
  · by_cases h5 : n ≤ 64
    · have R : Hid (largeB n k = true) := by rw [fin.out]; exact decide_eq_true ⟨h4, h5⟩
      clear fin
      by_cases h6 : 60 < k
      · have g2 : (60 : Int) < (k : Int) := by omega
        have g3 : decide ((k : Int) ≤ 4096) = false := by rw [decide_eq_false_iff_not]; omega
        clear h1 h2 h6
        go_enter Try.func9, Try.ntmps9
        go_wp2_with fail
        go_ret
        exact ⟨ret_bool (by rw [R.out]), rfl⟩
      · have g2 : decide ((60 : Int) < (k : Int)) = false := by rw [decide_eq_false_iff_not]; omega
        clear h1 h2 h6
        go_enter Try.func9, Try.ntmps9
        go_wp2_with fail
        go_ret
        exact ⟨ret_bool (by rw [R.out]), rfl⟩
    · have R : Hid (largeB n k = false) := by rw [fin.out]; exact decide_eq_false fun h => h5 h.2
      have d5 : decide (n ≤ 64) = false := decide_eq_false h5
      clear fin h5
      by_cases h6 : 60 < k
      · have g2 : (60 : Int) < (k : Int) := by omega
        have g3 : decide ((k : Int) ≤ 4096) = false := by rw [decide_eq_false_iff_not]; omega
        clear h1 h2 h6
        go_enter Try.func9, Try.ntmps9
        go_wp2_with fail
        go_ret
        exact ⟨ret_bool (by rw [R.out]), rfl⟩
      · have g2 : decide ((60 : Int) < (k : Int)) = false := by rw [decide_eq_false_iff_not]; omega
        clear h1 h2 h6
        go_enter Try.func9, Try.ntmps9
        go_wp2_with fail
        go_ret
        exact ⟨ret_bool (by rw [R.out]), rfl⟩
  · have R : Hid (largeB n k = false) := by rw [fin.out]; exact decide_eq_false fun h => h4 h.1
    have d4 : decide (12 < n) = false := decide_eq_false h4
    clear fin h4
    by_cases h6 : 60 < k
    · have g2 : (60 : Int) < (k : Int) := by omega
      have g3 : decide ((k : Int) ≤ 4096) = false := by rw [decide_eq_false_iff_not]; omega
      clear h1 h2 h6
      go_enter Try.func9, Try.ntmps9
      go_wp2_with fail
      go_ret
      exact ⟨ret_bool (by rw [R.out]), rfl⟩
    · have g2 : decide ((60 : Int) < (k : Int)) = false := by rw [decide_eq_false_iff_not]; omega
      clear h1 h2 h6
      go_enter Try.func9, Try.ntmps9
      go_wp2_with fail
      go_ret
      exact ⟨ret_bool (by rw [R.out]), rfl⟩

end Go.Proofs.Ytahbgafjljfndaa
