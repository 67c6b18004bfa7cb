/-
  Slices of calendars and of exceptions in memory: their cells, one put into a box of its own; '==' of two places. Condition: none beyond each theorem's own hypotheses.
-/
import Derived.Test.YtlbockpaeacigaaOpenG
import Derived.Test.YtlbockpaeacigaaRowS
import Derived.Test.YtlbockpaeacigaaMap
import Derived.Test.YtlbockpaeacigaaIVal
import Derived.Test.YtlbockpaeacigaaSameI
import Derived.Test.YtlbockpaeacigaaClr
import Derived.Lib.QuietBelow
namespace Go.Proofs.Ytlbockpaeacigaa
open Go.RowKit Go.Sort

/-- A calendar as cells. -/
def ce (x : Cl) : List Value := [.string (str x.1), .bool (x.2.1 0), .bool (x.2.1 1), .bool (x.2.1 2), .bool (x.2.1 3), .bool (x.2.1 4), .bool (x.2.1 5), .bool (x.2.1 6), .int .i64 x.2.2.1, .int .i64 x.2.2.2]
theorem ce_len (x : Cl) : (ce x).length = 10 := rfl
abbrev LstC := @LstG Cl ce
/-- An exception as cells. -/
def xe (x : Ex) : List Value := [.int .i64 x.1, .int .i64 x.2.1, .bool x.2.2]
theorem xe_len (x : Ex) : (xe x).length = 3 := rfl
theorem xe_one (x : Ex) : ∀ u ∈ xe x, u.oneCell' = true := by
  intro u hu
  simp [xe] at hu
  rcases hu with rfl | rfl | rfl <;> rfl
abbrev LstX := @LstG Ex xe
abbrev OwnX := @OwnG Ex xe 53 3
theorem info_ex : (Try.prog.info? 53).map (fun i => (i.zero, i.size, i.bytes)) = some (some (.agg #[.int .i64 0, .int .i64 0, .bool false]), 3, 24) := by kernel_rfl
/-- The three cells of an exception. -/
theorem three_at {w : World} {A : Option Addr} {n c : Nat} {l : List Ex} (h : LstX w (.slice A n c) l) {i : Nat} {k d : Int} {f : Bool} (hs : l[i]? = some (k, d, f)) :
    ∃ b o, A = some ⟨b, o, none⟩ ∧ b < w.heap.size ∧ w.cell? ⟨b, o + i * 3, none⟩ = some (.int .i64 k) ∧ w.cell? ⟨b, o + i * 3 + 1, none⟩ = some (.int .i64 d) ∧ w.cell? ⟨b, o + i * 3 + 2, none⟩ = some (.bool f) := by
  obtain ⟨A', c', hv, _, _, hx⟩ := h
  cases hv
  have hi := (List.getElem?_eq_some_iff.1 hs).1
  obtain ⟨b, o, rfl, hb, hcell⟩ := hx (by omega)
  refine ⟨b, o, rfl, hb, hcell (i * 3) _ (by rw [← Nat.add_zero (i * 3), fl_at xe_len hs 0 (by omega)]; rfl), (hcell (i * 3 + 1) _ (by rw [fl_at xe_len hs 1 (by omega)]; rfl) : _), (hcell (i * 3 + 2) _ (by rw [fl_at xe_len hs 2 (by omega)]; rfl) : _)⟩
/-- The cells of a calendar. -/
theorem ten_at {w : World} {A : Option Addr} {n c : Nat} {l : List Cl} (h : LstC w (.slice A n c) l) {i : Nat} {id : List UInt8} {k : Nat → Bool} {f t : Int} (hs : l[i]? = some (id, k, f, t)) {s : ByteArray} (hst : str id = s) :
    ∃ b o, A = some ⟨b, o, none⟩ ∧ b < w.heap.size ∧ w.cell? ⟨b, o + i * 10, none⟩ = some (.string s) ∧ (∀ m, m < 7 → w.cell? ⟨b, o + i * 10 + 1 + m, none⟩ = some (.bool (k m))) ∧ w.cell? ⟨b, o + i * 10 + 8, none⟩ = some (.int .i64 f) ∧ w.cell? ⟨b, o + i * 10 + 9, none⟩ = some (.int .i64 t) := by
  subst hst
  obtain ⟨A', c', hv, _, _, hx⟩ := h
  cases hv
  have hi := (List.getElem?_eq_some_iff.1 hs).1
  obtain ⟨b, o, rfl, hb, hcell⟩ := hx (by omega)
  refine ⟨b, o, rfl, hb, hcell (i * 10) _ (by rw [← Nat.add_zero (i * 10), fl_at ce_len hs 0 (by omega)]; rfl), fun m hm => ?_, (hcell (i * 10 + 8) _ (by rw [fl_at ce_len hs 8 (by omega)]; rfl) : _), (hcell (i * 10 + 9) _ (by rw [fl_at ce_len hs 9 (by omega)]; rfl) : _)⟩
  have e : o + i * 10 + 1 + m = o + (i * 10 + (1 + m)) := by omega
  rw [e]
  refine hcell _ _ ?_
  rw [fl_at ce_len hs (1 + m) (by omega)]
  match m, hm with
  | 0, _ => rfl
  | 1, _ => rfl
  | 2, _ => rfl
  | 3, _ => rfl
  | 4, _ => rfl
  | 5, _ => rfl
  | 6, _ => rfl
/-- A calendar in a box. -/
theorem box_cl {w w7 : World} {s : ByteArray} {k : Nat → Bool} {f t : Int} (h : w.alloc (.cells #[.string s, .bool (k 0), .bool (k 1), .bool (k 2), .bool (k 3), .bool (k 4), .bool (k 5), .bool (k 6), .int .i64 f, .int .i64 t] 50 (0, 0)) = w7) :
    Below w.heap.size w w7 ∧ w7.cell? ⟨w.heap.size, 0, none⟩ = some (.string s) ∧ w7.cell? ⟨w.heap.size, 1, none⟩ = some (.bool (k 0)) ∧ w7.cell? ⟨w.heap.size, 2, none⟩ = some (.bool (k 1)) ∧ w7.cell? ⟨w.heap.size, 3, none⟩ = some (.bool (k 2)) ∧ w7.cell? ⟨w.heap.size, 4, none⟩ = some (.bool (k 3)) ∧ w7.cell? ⟨w.heap.size, 5, none⟩ = some (.bool (k 4)) ∧ w7.cell? ⟨w.heap.size, 6, none⟩ = some (.bool (k 5)) ∧ w7.cell? ⟨w.heap.size, 7, none⟩ = some (.bool (k 6)) ∧
      w7.cell? ⟨w.heap.size, 8, none⟩ = some (.int .i64 f) ∧ w7.cell? ⟨w.heap.size, 9, none⟩ = some (.int .i64 t) ∧ w.heap.size < w7.heap.size := by
  subst h
  have c7 := heap_alloc_new w (.cells #[.string s, .bool (k 0), .bool (k 1), .bool (k 2), .bool (k 3), .bool (k 4), .bool (k 5), .bool (k 6), .int .i64 f, .int .i64 t] 50 (0, 0))
  exact ⟨(Below.refl _ _).alloc (Nat.le_refl _) _, by rw [cell_of_row _ _ 0 _ _ _ c7]; rfl, by rw [cell_of_row _ _ 1 _ _ _ c7]; rfl, by rw [cell_of_row _ _ 2 _ _ _ c7]; rfl, by rw [cell_of_row _ _ 3 _ _ _ c7]; rfl, by rw [cell_of_row _ _ 4 _ _ _ c7]; rfl, by rw [cell_of_row _ _ 5 _ _ _ c7]; rfl, by rw [cell_of_row _ _ 6 _ _ _ c7]; rfl, by rw [cell_of_row _ _ 7 _ _ _ c7]; rfl, by rw [cell_of_row _ _ 8 _ _ _ c7]; rfl, by rw [cell_of_row _ _ 9 _ _ _ c7]; rfl, by simp⟩
/-- An exception in a box. -/
theorem box_ex {w w7 : World} {k d : Int} {f : Bool} (h : w.alloc (.cells #[.int .i64 k, .int .i64 d, .bool f] 53 (0, 0)) = w7) :
    Below w.heap.size w w7 ∧ w7.cell? ⟨w.heap.size, 0, none⟩ = some (.int .i64 k) ∧ w7.cell? ⟨w.heap.size, 1, none⟩ = some (.int .i64 d) ∧ w7.cell? ⟨w.heap.size, 2, none⟩ = some (.bool f) ∧ w.heap.size < w7.heap.size := by
  subst h
  have c7 := heap_alloc_new w (.cells #[.int .i64 k, .int .i64 d, .bool f] 53 (0, 0))
  exact ⟨(Below.refl _ _).alloc (Nat.le_refl _) _, by rw [cell_of_row _ _ 0 _ _ _ c7]; rfl, by rw [cell_of_row _ _ 1 _ _ _ c7]; rfl, by rw [cell_of_row _ _ 2 _ _ _ c7]; rfl, by simp⟩
/-- A place in a box. -/
theorem box_pl {w w7 : World} {k d : Int} (h : w.alloc (.cells #[.int .i64 k, .int .i64 d] 64 (0, 0)) = w7) :
    Below w.heap.size w w7 ∧ w7.cell? ⟨w.heap.size, 0, none⟩ = some (.int .i64 k) ∧ w7.cell? ⟨w.heap.size, 1, none⟩ = some (.int .i64 d) ∧ w.heap.size < w7.heap.size := by
  subst h
  have c7 := heap_alloc_new w (.cells #[.int .i64 k, .int .i64 d] 64 (0, 0))
  exact ⟨(Below.refl _ _).alloc (Nat.le_refl _) _, by rw [cell_of_row _ _ 0 _ _ _ c7]; rfl, by rw [cell_of_row _ _ 1 _ _ _ c7]; rfl, by simp⟩
/-- '==' of two places. -/
theorem eql_pl (a b c d : Int) (q : Bool) (h : (decide (a = c ∧ b = d)) = q) (W : World) : (binOp BinOp.eql 64 (.agg #[.int .i64 a, .int .i64 b]) (.agg #[.int .i64 c, .int .i64 d])).run Try.prog W = .ok (.bool q) W := by
  subst h
  by_cases h1 : a = c
  · by_cases h2 : b = d
    · subst h1 h2; go_simp
    · subst h1
      have : (b == d) = false := beq_false h2
      go_simp
  · have : (a == c) = false := beq_false h1
    go_simp
theorem regrown_below {w0 wr w4 : World} (h : RowKit.Below w0.heap.size w0 wr) (h4 : ∃ p : Regrown, w4 = grow (redrawn wr p.d) p.os) : RowKit.Below w0.heap.size w0 w4 := by
  obtain ⟨p, rfl⟩ := h4
  exact h.trans ((below_regrown wr p.d p.os).mono h.size)
theorem ret_chk {a b c d : Int} (h : a = b) (k : c = d) : Ending.returned (.tuple #[.int .i64 a, .int .i64 c]) = .returned (.tuple #[.int .i64 b, .int .i64 d]) := by rw [h, k]
theorem ret_ib {a b : Int} {c d : Bool} (h : a = b) (k : c = d) : Ending.returned (.tuple #[.int .i64 a, .bool c]) = .returned (.tuple #[.int .i64 b, .bool d]) := by rw [h, k]
theorem str_ne {id : List UInt8} {x : List UInt8} {s t : ByteArray} (hs : str x = s) (ht : str id = t) (h : x ≠ id) : s ≠ t := by
  intro e
  apply h
  have e2 : str x = str id := by rw [hs, ht, e]
  have := congrArg (fun b : ByteArray => b.data.toList) e2
  simpa [str] using this
end Go.Proofs.Ytlbockpaeacigaa
