/-
  The table of 256 remainders that each call makes: what the call answers; nothing that existed before has changed. Condition: none.
-/
import Derived.Test.YtkadgmihaccogaaCSh
namespace Go.Proofs.Ytkadgmihaccogaa
open Go.RowKit

/-- The table of which the first k words are filled. -/
def tab (k : Nat) : Array Value := ((List.range 256).map fun i => Value.int .u32 (if i < k then ((shN 8 i : Nat) : Int) else 0)).toArray
theorem tab_size (k : Nat) : (tab k).size = 256 := by simp [tab]
theorem tab_at (k i : Nat) (hi : i < 256) : (tab k)[i]? = some (.int .u32 (if i < k then ((shN 8 i : Nat) : Int) else 0)) := by
  unfold tab
  rw [List.getElem?_toArray, List.getElem?_map, List.getElem?_range hi]
  rfl
theorem tab_set (k : Nat) (hk : k < 256) : (tab k).setIfInBounds k (.int .u32 ((shN 8 k : Nat) : Int)) = tab (k + 1) := by
  apply Array.ext_getElem?
  intro i
  rw [Array.getElem?_setIfInBounds, tab_size]
  by_cases hi : i < 256
  · rw [tab_at k i hi, tab_at (k + 1) i hi]
    by_cases h : k = i
    · subst h
      rw [if_pos rfl, if_pos hk, if_pos (by omega)]
    · rw [if_neg h]
      by_cases h2 : i < k
      · rw [if_pos h2, if_pos (by omega)]
      · rw [if_neg h2, if_neg (by omega)]
  · rw [if_neg (by omega), Array.getElem?_eq_none (by rw [tab_size]; omega), Array.getElem?_eq_none (by rw [tab_size]; omega)]
theorem tab_one (k : Nat) : (tab k).all (·.oneCell') = true := by
  rw [Array.all_eq_true_iff_forall_mem]
  intro x hx
  unfold tab at hx
  simp only [List.mem_toArray, List.mem_map] at hx
  obtain ⟨i, _, rfl⟩ := hx
  rfl
theorem info_tab : (Try.prog.info? 42).map (fun i => (i.zero.map Value.cells, i.size)) = some (some (tab 0), 256) := by kernel_rfl
theorem size_tab (k : Nat) : (Try.prog.info? 42).map (·.size) = some (tab k).size := by
  rw [tab_size]
  have h := info_tab
  cases hq : Try.prog.info? 42 with
  | none => rw [hq] at h; cases h
  | some i =>
    rw [hq] at h
    simp only [Option.map_some, Option.some.injEq, Prod.mk.injEq] at h
    simp [h.2]
/-- A new table. -/
theorem alloc_tab {ops : Array Oper} {rest : List Oper} {o : Oper} {a : Act} {w : World} {Q : Exit → Act → World → Prop} (hg : o.guard = none) (ho : o.op = .alloc 42)
    (h : wpList Try.prog ops Q rest (a.put o.dst (.pointer (some ⟨w.heap.size, 0, none⟩))) (w.alloc (.cells (tab 0) 42 (0, 0)))) : wpList Try.prog ops Q (o :: rest) a w := by
  refine wpList_plain hg fun K hK => ?_
  have hi := info_tab
  cases hq : Try.prog.info? 42 with
  | none => rw [hq] at hi; cases hi
  | some i =>
    rw [hq] at hi
    simp only [Option.map_some, Option.some.injEq, Prod.mk.injEq] at hi
    cases hz : i.zero with
    | none => rw [hz] at hi; cases hi.1
    | some z =>
      rw [hz] at hi
      simp only [Option.map_some, Option.some.injEq] at hi
      unfold Oper.wp
      simp [execOp, ho, Instr.alloc, zeroValue, typeInfo, hq, hz, newVar, newRow, hi.1, Result.andThen]
      exact hK _ _ h
/-- An index of a table. -/
theorem tix_run (B k : Nat) (hk : k < 256) (kd : IntKind) (W : World) : (Instr.indexAt 42 (.pointer (some ⟨B, 0, none⟩)) (.int kd (k : Int))).run Try.prog W = .ok (.pointer (some ⟨B, k, none⟩)) W := by
  have he : Try.prog.elem 42 = 24 := by kernel_rfl
  have hl : Try.prog.arrayLen 42 = 256 := by kernel_rfl
  rw [run_indexAt_array W 42 _ _ _ (by rw [he, hl]; exact Try.underlying42), hl, he, if_pos (by omega)]
  simp [Try.sizeOf24, Addr.add]
  exact fun h => h.symm
theorem below_row {B g : Nat} {w0 w : World} (hb : Below B w0 w) (hBg : B ≤ g) (cs : Array Value) : Below B w0 (w.setRow g cs) :=
  hb.trans ⟨rfl, rfl, rfl, by simp [World.setRow], fun k hk => setRow_other w g k cs (by omega)⟩
set_option maxHeartbeats 1000000 in
set_option maxRecDepth 10000 in
theorem remainders_any (w : World) : Calls Try.prog 23 #[] w fun e w' => e = .returned (.agg (tab 256)) ∧ Below w.heap.size w w' := by
  go_enter Try.func23, Try.ntmps23
  go_wp2_with (refine alloc_tab rfl rfl ?_)
  go_loopw [2, 3] (fun _ i wr => ∃ k : Nat, i = .int .i64 k ∧ k ≤ 256 ∧ wr = (w.alloc (.cells (tab 0) 42 (0, 0))).alloc (.cells (tab k) 42 (0, 0))) (fun _ i _ => 256 - (intOf i).toNat)
  case atStart => exact ⟨0, rfl, Nat.zero_le _, rfl⟩
  case round =>
    obtain ⟨k, rfl, hk, rfl⟩ := hrel
    by_cases hlt : k < 256
    · have gk : (k : Int) < 256 := by omega
      have ew : IntKind.u32.wrap (k : Int) = (k : Int) := by rw [IntKind.wrap_u32]; omega
      have M := Lib.hid (fun W => shift_any k (by unfold W32; omega) W)
      have E := tab_set k hlt
      have T := tab_at k k hlt
      rw [if_neg (by omega)] at T
      have I := tix_run (w.heap.size + 1) k hlt .i64
      generalize shN 8 k = r at M E
      go_wp2_with fail
      refine (M.out _).mono ?_
      rintro e w' ⟨rfl, rfl⟩
      go_wp2_with fail
      go_round
      case rel => exact ⟨k + 1, by go_num, by omega, rfl⟩
      case measure => simp [intOf]; omega
    · obtain rfl : k = 256 := by omega
      have d : decide (((256 : Nat) : Int) < 256) = false := rfl
      clear hlt hk
      have b0 : Below w.heap.size w ((w.alloc (.cells (tab 0) 42 (0, 0))).alloc (.cells (tab 256) 42 (0, 0))) := ((Below.refl _ _).alloc (Nat.le_refl _) _).alloc (by simp) _
      have h0 := heap_alloc2_old w (.cells (tab 0) 42 (0, 0)) (.cells (tab 256) 42 (0, 0))
      have h1 := heap_alloc2_new w (.cells (tab 0) 42 (0, 0)) (.cells (tab 256) 42 (0, 0))
      generalize (w.alloc (.cells (tab 0) 42 (0, 0))).alloc (.cells (tab 256) 42 (0, 0)) = w1 at b0 h0 h1 ⊢
      go_wp2_with (first
        | (refine wpList_load_row rfl 42 (.tmp 1) rfl (w.heap.size + 1) rfl 42 (tab 256) (0, 0) _ h1 Try.underlying42 rfl (size_tab _) ?_)
        | (refine wpList_store_row rfl 42 (.tmp 0) (.tmp 12) rfl w.heap.size (tab 256) rfl rfl 42 (tab 0) h0 (size_tab _) (by rw [tab_size, tab_size]) (tab_one _) ?_))
      refine bodyPost_ret (results_cell_row rfl _ _ w.heap.size 42 (tab 256) (0, 0) _ rfl (setRow_heap w1 w.heap.size (tab 0) (tab 256) _ _ h0) Try.underlying42 rfl (size_tab _)) rfl ?_
      exact ⟨rfl, below_row b0 (Nat.le_refl _) _⟩
end Go.Proofs.Ytkadgmihaccogaa
