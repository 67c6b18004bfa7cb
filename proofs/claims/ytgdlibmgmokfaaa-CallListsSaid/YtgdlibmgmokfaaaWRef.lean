/-
  The reference's Rides: all rides in order, as a row of the call's own; nothing that existed before the call has changed behind it. Condition: lists of at most 60 calls.
-/
import Derived.Test.YtgdlibmgmokfaaaWEq
namespace Go.Proofs.Ytgdlibmgmokfaaa
open Go.RowKit

set_option maxRecDepth 100000 in
set_option maxHeartbeats 4000000 in
theorem rrides_any (v : Value) (l : List Cl) (hl : l.length ≤ 60) (w : World) (h : LstC w v l) :
    Calls Try.prog 20 #[v] w fun e w' => ∃ u, e = .returned u ∧ OwnP w' w.heap.size u (prsC l) ∧ Below w.heap.size w w' := by
  have H := Lib.hid h
  obtain ⟨A, c, rfl, -, -, -⟩ := h
  go_enter Try.func20, Try.ntmps20
  go_wp2_with fail
  go_loopw [4, 3] (fun i v' wr => ∃ (q : Nat) (pre : List Pr), i = .int .i64 (q : Int) ∧ q ≤ l.length ∧ Hid (prsC l = pre ++ allR l q) ∧ Hid (OwnP wr w.heap.size v' pre) ∧ Hid (Below w.heap.size w wr)) (fun i _ _ => l.length - (intOf i).toNat)
  case atStart => exact ⟨0, [], rfl, Nat.zero_le _, Lib.hid prs_start, Lib.hid (OwnG.nil _ _ _ _ _), Lib.hid (Below.refl _ _)⟩
  case round =>
    obtain ⟨q, pre, rfl, hq, hz, HO, HB⟩ := hrel
    by_cases hlt : q < l.length
    · have gk : (q : Int) < (l.length : Int) := by omega
      have N := Lib.hid (prs_row hz.out hlt)
      clear hz
      go_wp2_with fail
      go_loopw [5, 3] (fun i v' wr => ∃ (k : Nat) (pre : List Pr), i = .int .i64 (k : Int) ∧ k ≤ l.length ∧ Hid (prsC l = pre ++ (rowR l q k ++ allR l (q + 1))) ∧ Hid (OwnP wr w.heap.size v' pre) ∧ Hid (Below w.heap.size w wr)) (fun i _ _ => l.length - (intOf i).toNat)
      case atStart => exact ⟨q + 1, pre, by go_num, by omega, N, HO, HB⟩
      case round =>
        clear N HO HB
        obtain ⟨k, pre, rfl, hk, hz, HO, HB⟩ := hrel
        have hb := HB.out.size
        by_cases hkl : k < l.length
        · have gk2 : (k : Int) < (l.length : Int) := by omega
          have M := Lib.hid (rrid_any (.slice A l.length c) l (q : Int) (k : Int) _ (H.out.below HB.out))
          cases hr : rdB l (q : Int) (k : Int) with
          | false =>
            rw [hr] at M
            have N := Lib.hid (prs_miss hz.out hkl hr)
            clear hz hr
            go_wp2_with fail
            refine M.out.mono ?_
            rintro e w' ⟨rfl, rfl⟩
            go_wp2_with fail
            go_roundw
            case rel => exact ⟨k + 1, pre, by go_num, by omega, N, HO, HB⟩
            case measure => simp [intOf]; omega
          | true =>
            rw [hr] at M
            have N := Lib.hid (prs_hit hz.out hkl hr)
            have hlen : pre.length ≤ 3600 := by
              have h1 := congrArg List.length hz.out
              have h2 := prs_le l
              have h3 : l.length * l.length ≤ 60 * 60 := Nat.mul_le_mul hl hl
              rw [List.length_append] at h1
              omega
            clear hz hr
            go_wp2_with fail
            refine M.out.mono ?_
            rintro e w' ⟨rfl, rfl⟩
            go_wp2_with (at_builtin; refine appG_one pe_len pe_one (by decide) Try.underlying36 info_pr rfl (by decide) _ rfl (.tmp 24) (.tmp 28) rfl w.heap.size _ pre (q, k) rfl (World.ownsRow.alloc HO.out _) wr.heap.size _ (heap_alloc_new _ _) rfl rfl (by simp; omega) (by omega) ?_; intro v1 w8 own8 b8 _ _; have B8 := Lib.hid ((HB.out.alloc hb _).trans b8); have O8 := Lib.hid own8; clear own8 b8)
            clear HO HB
            go_roundw
            case rel => exact ⟨k + 1, pre ++ [(q, k)], by go_num, by omega, N, O8, B8⟩
            case measure => simp [intOf]; omega
        · have d : decide (k < l.length) = false := by rw [decide_eq_false_iff_not]; exact hkl
          have N := Lib.hid (prs_rowend hz.out (by omega))
          clear hz hkl
          go_wp2_with fail
          go_roundw
          case rel => exact ⟨q + 1, pre, by go_num, by omega, N, HO, HB⟩
          case measure => simp [intOf]; omega
    · have d : decide (q < l.length) = false := by rw [decide_eq_false_iff_not]; exact hlt
      have E := Lib.hid (prs_end hz.out (by omega))
      clear hz hlt
      go_wp2_with fail
      go_ret
      exact ⟨_, rfl, by rw [E.out]; exact HO.out, HB.out⟩
end Go.Proofs.Ytgdlibmgmokfaaa
