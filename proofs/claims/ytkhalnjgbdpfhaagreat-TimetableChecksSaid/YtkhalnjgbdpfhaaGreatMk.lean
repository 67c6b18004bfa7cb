/-
  Rows of structs that make([]T, n) makes: the call's own, all elements zero. Condition: none beyond each theorem's own hypotheses.
-/
import Derived.Test.YtkhalnjgbdpfhaaGreatShA
import Derived.Deep.OwnRows
namespace Go.Proofs.YtkhalnjgbdpfhaaGreat
open Go.RowKit

theorem fl_rep {α : Type} (enc : α → List Value) (a : α) : ∀ n, fl enc (List.replicate n a) = (List.replicate n (enc a)).flatten
  | 0 => rfl
  | n + 1 => by rw [List.replicate_succ, fl_cons, fl_rep enc a n, List.replicate_succ, List.flatten_cons]
theorem flat_at (xs : List Value) (k0 : 0 < xs.length) : ∀ (n i : Nat), i < n * xs.length → ((List.replicate n xs).flatten)[i]? = xs[i % xs.length]?
  | 0, i, h => by omega
  | n + 1, i, h => by
    rw [List.replicate_succ, List.flatten_cons, List.getElem?_append]
    split
    · next h1 => rw [Nat.mod_eq_of_lt h1]
    · next h1 =>
      rw [flat_at xs k0 n (i - xs.length) (by rw [Nat.add_mul] at h; omega)]
      congr 1
      rw [← Nat.mod_eq_sub_mod (by omega)]
/-- make([]T, n). -/
theorem mkG_run {α : Type} {enc : α → List Value} {k : Nat} {ST T : TypeId} {z : Value} {bytes : Nat} (hk : ∀ a, (enc a).length = k) (k0 : 0 < k) (hu : Tryz.prog.underlying ST = some (.slice T)) (hinfo : (Tryz.prog.info? T).map (fun i => (i.zero, i.size, i.bytes)) = some (some z, k, bytes)) (a0 : α) (hz0 : z.cells.toList = enc a0) (n : Nat) (hn : n * bytes ≤ 281474976710656) (hn2 : n ≤ 281474976710656) (e : Int) (he : e = n) (W : World) :
    (Instr.makeSlice ST (.int .i64 e) (.int .i64 e)).run Tryz.prog W = .ok (.slice (some ⟨W.heap.size, 0, none⟩) n n) (W.alloc (.cells (fl enc (List.replicate n a0)).toArray T (0, 0))) := by
  subst he
  obtain ⟨i, hi, hz, hsz, hby⟩ := info_parts hinfo
  have h := run_make (P := Tryz.prog) W ST T i _ hu hi hz .i64 .i64 n n (by omega) (by omega) (by rw [hby, ← Int.natCast_mul]; rw [Nat.mul_comm] at hn; omega) (by omega)
  rw [h, hsz]
  have e2 : madeCells z.cells (n * k) = (fl enc (List.replicate n a0)).toArray := by
    have hzs : z.cells.size = k := by rw [← Array.length_toList, hz0, hk]
    rw [fl_rep, ← hz0]
    have hl : ((List.replicate n z.cells.toList).flatten).length = n * k := by rw [List.length_flatten, List.map_replicate, List.sum_replicate_nat, Array.length_toList, hzs]
    unfold madeCells
    apply Array.ext_getElem?
    intro i
    by_cases hi : i < n * k
    · have h1 := flat_at z.cells.toList (by rw [Array.length_toList, hzs]; exact k0) n i (by rw [Array.length_toList, hzs]; exact hi)
      have e3 : ((List.replicate n z.cells.toList).flatten).toArray[i]? = ((List.replicate n z.cells.toList).flatten)[i]? := by simp
      rw [e3, h1, Array.length_toList, hzs]
      simp [hi]
      have : i % k < z.cells.size := by rw [hzs]; exact Nat.mod_lt _ k0
      rw [getElem!_pos z.cells _ this]
      exact (Array.getElem?_eq_getElem this).symm
    · rw [Array.getElem?_eq_none (by simpa using hi), Array.getElem?_eq_none (by simp only [List.size_toArray, hl]; omega)]
  simp only [Int.toNat_natCast]
  rw [e2]
theorem ownG_made {α : Type} {enc : α → List Value} {k : Nat} {T : TypeId} (hk : ∀ a, (enc a).length = k) (W : World) {base : Nat} (hb : base ≤ W.heap.size) (l : List α) (hl : l.length ≤ maxLen) : OwnG enc T k (W.alloc (.cells (fl enc l).toArray T (0, 0))) base (.slice (some ⟨W.heap.size, 0, none⟩) l.length l.length) l := by
  refine ⟨by rw [fl_len hk], .inr ⟨W.heap.size, l.length, (fl enc l).toArray, rfl, hb, heap_alloc_new _ _, Nat.le_refl _, hl, ?_, ?_⟩⟩
  · rw [List.size_toArray, fl_len hk]
  · show (fl enc l).take _ = _
    rw [List.take_of_length_le (by rw [fl_len hk]; exact Nat.le_refl _)]
end Go.Proofs.YtkhalnjgbdpfhaaGreat
