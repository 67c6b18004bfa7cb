/-
  ModeName and ParseMode of package route, Names, ParseMode and mode of its reference: what each call answers; nothing that existed before the call has changed behind it. Condition: the table of the names as its initialiser lays it.
-/
import Derived.Test.YtlpemdhjbpekaaaDoorJSt
namespace Go.Proofs.YtlpemdhjbpekaaaDoor
open Go.RowKit

/-- Whether an int is a mode, asked of the set of all. -/
theorem has_mode (i : Int) : hasB 255 i = decide (okM i) := by
  unfold hasB
  rw [show (255 : Nat) = 2 ^ 8 - 1 by rfl, Nat.testBit_two_pow_sub_one, Bool.eq_iff_iff, Bool.and_eq_true, decide_eq_true_iff, decide_eq_true_iff, decide_eq_true_iff]
  unfold okM
  omega
theorem every_any (i : Int) (w : World) : Calls Tryd.prog 31 #[.int .u64 255, .int .i64 i] w fun e w' => e = .returned (.bool (decide (okM i))) ∧ w = w' := by
  have h := has_any 255 (by decide) i w
  rw [has_mode] at h
  exact h
theorem rmode_any (i : Int) (w : World) : Calls Tryd.prog 30 #[.int .i64 i] w fun e w' => e = .returned (.bool (decide (okM i))) ∧ w = w' := by
  by_cases h0 : 0 ≤ i
  · by_cases h8 : i < 8
    · have R := Lib.hid (show decide (okM i) = true from decide_eq_true ⟨h0, h8⟩)
      go_enter Tryd.func30, Tryd.ntmps30
      go_wp2_with fail
      go_ret
      exact ⟨ret_bool R.out.symm, rfl⟩
    · have R := Lib.hid (show decide (okM i) = false from decide_eq_false fun h => h8 h.2)
      have d : decide (i < 8) = false := decide_eq_false h8
      clear h8
      go_enter Tryd.func30, Tryd.ntmps30
      go_wp2_with fail
      go_ret
      exact ⟨ret_bool R.out.symm, rfl⟩
  · have R := Lib.hid (show decide (okM i) = false from decide_eq_false fun h => h0 h.1)
    have d : decide (0 ≤ i) = false := decide_eq_false h0
    clear h0
    go_enter Tryd.func30, Tryd.ntmps30
    go_wp2_with fail
    go_ret
    exact ⟨ret_bool R.out.symm, rfl⟩

/-! ### The code's -/
set_option maxRecDepth 100000 in
theorem name_any (m : Nat) (hm : m < 8) (w : World) (hg : GoodR w) : Calls Tryd.prog 13 #[.int .i64 (m : Int)] w fun e w' => e = .returned (.tuple #[.string (str (nmR m)), .bool true]) ∧ w = w' := by
  have ix := fun W => nix_run 0 m hm W
  have c := hg.name m hm
  have E := Lib.hid (fun W => every_any (m : Int) W)
  rw [decide_eq_true (show okM (m : Int) from ⟨by omega, by omega⟩)] at E
  generalize str (nmR m) = s at c ⊢
  clear hg
  go_enter Tryd.func13, Tryd.ntmps13
  go_wp2_with fail
  refine (E.out _).mono ?_
  rintro e w' ⟨rfl, rfl⟩
  go_wp2_with fail
  go_ret2
  exact ⟨rfl, rfl⟩
theorem name_no (m : Int) (hm : ¬ okM m) (w : World) : Calls Tryd.prog 13 #[.int .i64 m] w fun e w' => e = .returned (.tuple #[.string ⟨#[]⟩, .bool false]) ∧ w = w' := by
  have E := Lib.hid (fun W => every_any m W)
  rw [decide_eq_false hm] at E
  clear hm
  go_enter Tryd.func13, Tryd.ntmps13
  go_wp2_with fail
  refine (E.out _).mono ?_
  rintro e w' ⟨rfl, rfl⟩
  go_wp2_with fail
  go_ret2
  exact ⟨rfl, rfl⟩
/-- A name out of the array by value. -/
theorem nai_run (k : Nat) (hk : k < 8) (W : World) : (Instr.index 55 (.agg nmV) (.int .i64 (k : Int))).run Tryd.prog W = .ok (.string (str (nmR k))) W := by
  have hT := Tryd.underlying55
  have h : nmV[k]? = some (.string (str (nmR k))) := nmV_at k hk
  have hn : (0 : Int) ≤ (k : Int) ∧ (k : Int) < 8 := by omega
  simp [Instr.index, run_underlying hT, asIntOf, hn, h, go_sem]
  try exact fun h => absurd h (by omega)
set_option maxRecDepth 100000 in
set_option maxHeartbeats 4000000 in
theorem parse_any (id : List UInt8) (t : ByteArray) (ht : str id = t) (w : World) (hg : GoodR w) : Calls Tryd.prog 15 #[.string t] w fun e w' => e = .returned (.tuple #[.int .i64 (max (modeR id) 0), .bool (decide (0 ≤ modeR id))]) ∧ w = w' := by
  have HT := Lib.hid ht
  obtain ⟨T, fr, hrow⟩ := hg.row
  obtain ⟨r, hr⟩ : ∃ r, modeR id = r := ⟨_, rfl⟩
  rw [hr]
  have HR := Lib.hid hr
  clear hr ht hg
  go_enter Tryd.func15, Tryd.ntmps15
  go_wp2_with (refine wpList_load_row rfl 55 (.global 0) rfl 0 rfl T nmV fr _ hrow Tryd.underlying55 rfl size_nm ?_)
  clear hrow
  go_loop [7] (fun i => ∃ k : Nat, i = .int .i64 k ∧ k ≤ 8 ∧ Hid (modeR id = fdF (isN id) k (nmL.drop k))) (fun i => 8 - (intOf i).toNat)
  case atStart => exact ⟨0, rfl, Nat.zero_le _, Lib.hid rfl⟩
  case round =>
    obtain ⟨k, rfl, hk, hz⟩ := hrel
    by_cases hlt : k < 8
    · have ix := fun W => nai_run k hlt W
      have hx := nmR_at hlt
      have gk : (k : Int) < 8 := by omega
      obtain ⟨nm, hnm⟩ : ∃ nm, str (nmR k) = nm := ⟨_, rfl⟩
      rw [hnm] at ix
      by_cases he : nmR k = id
      · have g := bytes_eq (a := nm) (b := t) (by rw [← hnm, ← HT.out, he])
        have R : Hid (r = (k : Int)) := by
          show _ = _
          rw [← HR.out, fd_hit hz.out hx (decide_eq_true he)]
        clear hx hz hnm he hlt HR HT
        go_wp2_with fail
        go_ret2
        exact ⟨ret_fnd (by rw [R.out, Int.max_eq_left (by omega)]) (by rw [R.out, decide_eq_true (by omega)]), rfl⟩
      · have g := bytes_ne (a := nm) (b := t) (str_ne hnm HT.out he)
        have N := Lib.hid (fd_miss hz.out hx (decide_eq_false he))
        clear hx hz hnm he
        go_wp2_with fail
        go_round
        case rel => exact ⟨k + 1, by go_num, by omega, N⟩
        case measure => simp [intOf]; omega
    · have R : Hid (r = -1) := by
        show _ = _
        rw [← HR.out, fd_end hz.out (by show 8 ≤ k; omega)]
      have d : decide ((k : Int) < 8) = false := by rw [decide_eq_false_iff_not]; omega
      clear hz hlt HR HT
      go_wp2_with fail
      go_ret2
      exact ⟨ret_fnd (by rw [R.out]; rfl) (by rw [R.out]; rfl), rfl⟩

/-! ### The reference's -/
set_option maxRecDepth 100000 in
theorem rnames_any (w : World) : Calls Tryd.prog 14 #[] w fun e w' => e = .returned (.slice (some ⟨w.heap.size, 0, none⟩) 8 8) ∧ (∀ k, k < 8 → w'.cell? ⟨w.heap.size, k, none⟩ = some (.string (str (nmR k)))) ∧ Below w.heap.size w w' := by
  obtain ⟨w7, hw7⟩ : ∃ W, w.alloc (.cells nmV 9 (0, 0)) = W := ⟨_, rfl⟩
  have c7 := heap_alloc_new w (.cells nmV 9 (0, 0))
  have C : Hid (∀ k, k < 8 → w7.cell? ⟨w.heap.size, k, none⟩ = some (.string (str (nmR k)))) := by
    intro k hk
    rw [← hw7, cell_of_row _ _ k _ _ _ c7]
    exact nmV_at k hk
  have B7 : Hid (Below w.heap.size w w7) := by
    rw [← hw7]
    exact (Below.refl _ _).alloc (Nat.le_refl _) _
  unfold nmV at hw7
  clear c7
  go_enter Tryd.func14, Tryd.ntmps14
  go_wp2_with fail
  go_ret
  exact ⟨rfl, C.out, B7.out⟩
set_option maxRecDepth 100000 in
set_option maxHeartbeats 4000000 in
theorem rparse_any (id : List UInt8) (t : ByteArray) (ht : str id = t) (w : World) : Calls Tryd.prog 16 #[.string t] w fun e w' => e = .returned (.tuple #[.int .i64 (max (modeR id) 0), .bool (decide (0 ≤ modeR id))]) ∧ Below w.heap.size w w' := by
  have HT := Lib.hid ht
  obtain ⟨r, hr⟩ : ∃ r, modeR id = r := ⟨_, rfl⟩
  rw [hr]
  have HR := Lib.hid hr
  clear hr ht
  go_enter Tryd.func16, Tryd.ntmps16
  go_wp2_with fail
  go_loopw [4] (fun i wr => ∃ k : Nat, i = .int .i64 k ∧ k ≤ 8 ∧ Hid (modeR id = fdF (isN id) k (nmL.drop k)) ∧ Hid (Below w.heap.size w wr)) (fun i _ => 8 - (intOf i).toNat)
  case atStart => exact ⟨0, rfl, Nat.zero_le _, Lib.hid rfl, Lib.hid (Below.refl _ _)⟩
  case round =>
    obtain ⟨k, rfl, hk, hz, HB⟩ := hrel
    by_cases hlt : k < 8
    · have hx := nmR_at hlt
      have gk : (k : Int) < 8 := by omega
      obtain ⟨nm, hnm⟩ : ∃ nm, str (nmR k) = nm := ⟨_, rfl⟩
      by_cases he : nmR k = id
      · have g := bytes_eq (a := nm) (b := t) (by rw [← hnm, ← HT.out, he])
        have R : Hid (r = (k : Int)) := by
          show _ = _
          rw [← HR.out, fd_hit hz.out hx (decide_eq_true he)]
        have HN := Lib.hid hnm
        clear hx hz hnm he HR HT
        go_wp2_with fail
        refine (rnames_any wr).mono ?_
        rintro e w1 ⟨rfl, c1, b1⟩
        have c := c1 k hlt
        rw [HN.out] at c
        have B1 := Lib.hid (HB.out.trans (b1.mono HB.out.size))
        clear c1 b1 HB HN hlt
        go_wp2_with fail
        go_ret2
        exact ⟨ret_fnd (by rw [R.out, Int.max_eq_left (by omega)]) (by rw [R.out, decide_eq_true (by omega)]), B1.out⟩
      · have g := bytes_ne (a := nm) (b := t) (str_ne hnm HT.out he)
        have N := Lib.hid (fd_miss hz.out hx (decide_eq_false he))
        have HN := Lib.hid hnm
        clear hx hz hnm he
        go_wp2_with fail
        refine (rnames_any wr).mono ?_
        rintro e w1 ⟨rfl, c1, b1⟩
        have c := c1 k hlt
        rw [HN.out] at c
        have B1 := Lib.hid (HB.out.trans (b1.mono HB.out.size))
        clear c1 b1 HB HN
        go_wp2_with fail
        go_roundw
        case rel => exact ⟨k + 1, by go_num, by omega, N, B1⟩
        case measure => simp [intOf]; omega
    · have R : Hid (r = -1) := by
        show _ = _
        rw [← HR.out, fd_end hz.out (by show 8 ≤ k; omega)]
      have d : decide ((k : Int) < 8) = false := by rw [decide_eq_false_iff_not]; omega
      clear hz hlt HR HT
      go_wp2_with fail
      go_ret2
      exact ⟨ret_fnd (by rw [R.out]; rfl) (by rw [R.out]; rfl), HB.out⟩
end Go.Proofs.YtlpemdhjbpekaaaDoor
