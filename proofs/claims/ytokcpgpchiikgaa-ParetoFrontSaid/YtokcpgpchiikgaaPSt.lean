/-
  Vectors in memory: as cells, as slices of a call's own or handed in; '==' of vectors. Condition: none beyond each theorem's own hypotheses.
-/
import Derived.Test.YtokcpgpchiikgaaPar
import Derived.Test.YtokcpgpchiikgaaFrm
import Derived.Lib.Small
namespace Go.Proofs.Ytokcpgpchiikgaa
open Go.RowKit

/-- A vector as cells. -/
def vc (v : Vec) : List Value := [.int .i64 v.1, .int .i64 v.2.1, .int .i64 v.2.2.1, .int .i64 v.2.2.2]
theorem vc_len (v : Vec) : (vc v).length = 4 := rfl
theorem vc_one (v : Vec) : ∀ u ∈ vc v, u.oneCell' = true := by
  intro u hu
  simp [vc] at hu
  rcases hu with rfl | rfl | rfl | rfl <;> rfl
theorem info_pv : (Try.prog.info? 23).map (fun i => (i.zero, i.size, i.bytes)) = some (some (.agg #[.int .i64 0, .int .i64 0, .int .i64 0, .int .i64 0]), 4, 32) := by kernel_rfl
theorem info_rv : (Try.prog.info? 26).map (fun i => (i.zero, i.size, i.bytes)) = some (some (.agg #[.int .i64 0, .int .i64 0, .int .i64 0, .int .i64 0]), 4, 32) := by kernel_rfl
/-- A slice of the program's vectors, of the call's own. -/
abbrev OwnV := @OwnG Vec vc 23 4
/-- A slice of the reference's vectors, of the call's own. -/
abbrev OwnR := @OwnG Vec vc 26 4
/-- A slice of vectors of any kind. -/
abbrev LstV := @LstG Vec vc
/-- A vector's four cells in a slice. -/
theorem v_at {w : World} {A : Option Addr} {n c : Nat} {l : List Vec} (h : LstV w (.slice A n c) l) {i : Nat} {s : Vec} (hs : l[i]? = some s) :
    ∃ b o, A = some ⟨b, o, none⟩ ∧ b < w.heap.size ∧ w.cell? ⟨b, o + i * 4, none⟩ = some (.int .i64 s.1) ∧ w.cell? ⟨b, o + i * 4 + 1, none⟩ = some (.int .i64 s.2.1) ∧ w.cell? ⟨b, o + i * 4 + 2, none⟩ = some (.int .i64 s.2.2.1) ∧ w.cell? ⟨b, o + i * 4 + 3, none⟩ = some (.int .i64 s.2.2.2) := by
  obtain ⟨A', c', hv, _, _, hx⟩ := h
  cases hv
  have hi := (List.getElem?_eq_some_iff.1 hs).1
  obtain ⟨b, o, rfl, hb, hcell⟩ := hx (by omega)
  exact ⟨b, o, rfl, hb, hcell (i * 4) _ (by rw [← Nat.add_zero (i * 4), fl_at vc_len hs 0 (by omega)]; rfl), (hcell (i * 4 + 1) _ (by rw [fl_at vc_len hs 1 (by omega)]; rfl) : _), (hcell (i * 4 + 2) _ (by rw [fl_at vc_len hs 2 (by omega)]; rfl) : _), (hcell (i * 4 + 3) _ (by rw [fl_at vc_len hs 3 (by omega)]; rfl) : _)⟩
theorem run_eqIn_arr {T : TypeId} (hT : Try.prog.underlying T = some (.array 4 3)) (a b c d a' b' c' d' : Int) (W : World) (m : Nat) :
    (Op.equalIn (m + 1 + 1) T (.agg #[.int .i64 a, .int .i64 b, .int .i64 c, .int .i64 d]) (.agg #[.int .i64 a', .int .i64 b', .int .i64 c', .int .i64 d'])).run Try.prog W = .ok (decide (a = a' ∧ b = b' ∧ c = c' ∧ d = d')) W := by
  have u3 := Try.underlying3
  have a3 := Try.isAgg3
  have z3 := Try.sizeOf3
  have r4 : List.range' 0 4 = [0, 1, 2, 3] := rfl
  have P : ∀ (p q r s : Int) (W : World), (part 3 #[.int .i64 p, .int .i64 q, .int .i64 r, .int .i64 s] (0 * 1)).run Try.prog W = .ok (.int .i64 p) W ∧ (part 3 #[.int .i64 p, .int .i64 q, .int .i64 r, .int .i64 s] (1 * 1)).run Try.prog W = .ok (.int .i64 q) W ∧ (part 3 #[.int .i64 p, .int .i64 q, .int .i64 r, .int .i64 s] (2 * 1)).run Try.prog W = .ok (.int .i64 r) W ∧ (part 3 #[.int .i64 p, .int .i64 q, .int .i64 r, .int .i64 s] (3 * 1)).run Try.prog W = .ok (.int .i64 s) W := by
    intro p q r s W
    simp [part, a3]
  have E : ∀ (x y : Int) (W : World), (Op.equalIn (m + 1) 3 (.int .i64 x) (.int .i64 y)).run Try.prog W = .ok (x == y) W := fun x y W => run_equalIn_int W m _ _ _ x y u3
  rw [Op.equalIn]
  simp only [Sem.run_bind, run_underlying hT, Result.andThen_ok, z3]
  by_cases h1 : a = a'
  · by_cases h2 : b = b'
    · by_cases h3 : c = c'
      · by_cases h4 : d = d' <;> simp [r4, (P _ _ _ _ _).1, (P _ _ _ _ _).2.1, (P _ _ _ _ _).2.2.1, (P _ _ _ _ _).2.2.2, E, h1, h2, h3, h4]
      · simp [r4, P, E, h1, h2, h3]
    · simp [r4, P, E, h1, h2]
  · simp [r4, P, E, h1]
theorem veq_iff (a b : Vec) : (a.1 = b.1 ∧ a.2.1 = b.2.1 ∧ a.2.2.1 = b.2.2.1 ∧ a.2.2.2 = b.2.2.2) = (a = b) := propext (vec_eq a b).symm
theorem eql_run {T : TypeId} (hT : Try.prog.underlying T = some (.array 4 3)) (a b : Vec) (W : World) :
    (binOp .eql T (.agg #[.int .i64 a.1, .int .i64 a.2.1, .int .i64 a.2.2.1, .int .i64 a.2.2.2]) (.agg #[.int .i64 b.1, .int .i64 b.2.1, .int .i64 b.2.2.1, .int .i64 b.2.2.2])).run Try.prog W = .ok (.bool (decide (a = b))) W := by
  rw [run_eql_struct, show (10000 : Nat) = 9998 + 1 + 1 from rfl, run_eqIn_arr hT]
  simp only [Result.andThen_ok, veq_iff]
theorem neq_run {T : TypeId} (hT : Try.prog.underlying T = some (.array 4 3)) (a b : Vec) (W : World) :
    (binOp .neq T (.agg #[.int .i64 a.1, .int .i64 a.2.1, .int .i64 a.2.2.1, .int .i64 a.2.2.2]) (.agg #[.int .i64 b.1, .int .i64 b.2.1, .int .i64 b.2.2.1, .int .i64 b.2.2.2])).run Try.prog W = .ok (.bool (!decide (a = b))) W := by
  rw [run_neq_struct, show (10000 : Nat) = 9998 + 1 + 1 from rfl, run_eqIn_arr hT]
  simp only [Result.andThen_ok, veq_iff]
/-- The component of an index. -/
def cp (v : Vec) : Nat → Int
  | 0 => v.1
  | 1 => v.2.1
  | 2 => v.2.2.1
  | _ => v.2.2.2
theorem cix_run {T : TypeId} (hT : Try.prog.underlying T = some (.array 4 3)) (B k : Nat) (hk : k < 4) (W : World) :
    (Instr.indexAt T (.pointer (some ⟨B, 0, none⟩)) (.int .i64 (k : Int))).run Try.prog W = .ok (.pointer (some ⟨B, k, none⟩)) W := by
  have he : Try.prog.elem T = 3 := by simp [Program.elem, hT]
  have hl : Try.prog.arrayLen T = 4 := by simp [Program.arrayLen, hT]
  rw [run_indexAt_array W T _ _ _ (by rw [he, hl]; exact hT), hl, he, if_pos (by omega)]
  simp [Try.sizeOf3, Addr.add]
  exact fun h => h.symm
theorem box_cp {w : World} {B : Nat} {v : Vec} {T : TypeId} (h : w.heap[B]? = some (.cells #[.int .i64 v.1, .int .i64 v.2.1, .int .i64 v.2.2.1, .int .i64 v.2.2.2] T (0, 0))) {k : Nat} (hk : k < 4) : w.cell? ⟨B, k, none⟩ = some (.int .i64 (cp v k)) := by
  rw [cell_of_row _ _ k _ _ _ h]
  match k, hk with
  | 0, _ => rfl
  | 1, _ => rfl
  | 2, _ => rfl
  | 3, _ => rfl
/-- Two vectors boxed, one behind the other. -/
theorem box_two (w : World) (a b : Vec) (T : TypeId) : ∃ W : World, (w.alloc (.cells #[.int .i64 a.1, .int .i64 a.2.1, .int .i64 a.2.2.1, .int .i64 a.2.2.2] T (0, 0))).alloc (.cells #[.int .i64 b.1, .int .i64 b.2.1, .int .i64 b.2.2.1, .int .i64 b.2.2.2] T (0, 0)) = W ∧ W.heap.size = w.heap.size + 2 ∧
    W.heap[w.heap.size]? = some (.cells #[.int .i64 a.1, .int .i64 a.2.1, .int .i64 a.2.2.1, .int .i64 a.2.2.2] T (0, 0)) ∧ W.heap[w.heap.size + 1]? = some (.cells #[.int .i64 b.1, .int .i64 b.2.1, .int .i64 b.2.2.1, .int .i64 b.2.2.2] T (0, 0)) ∧ RowKit.Below w.heap.size w W := by
  refine ⟨_, rfl, by simp, (Go.heap_alloc_old _ _ (show w.heap.size < _ by simp)).trans (heap_alloc_new w _), ?_, ((RowKit.Below.refl _ _).alloc (Nat.le_refl _) _).alloc (by simp) _⟩
  have hh := heap_alloc_new (w.alloc (.cells #[.int .i64 a.1, .int .i64 a.2.1, .int .i64 a.2.2.1, .int .i64 a.2.2.2] T (0, 0))) (.cells #[.int .i64 b.1, .int .i64 b.2.1, .int .i64 b.2.2.1, .int .i64 b.2.2.2] T (0, 0))
  rw [show (w.alloc (.cells #[.int .i64 a.1, .int .i64 a.2.1, .int .i64 a.2.2.1, .int .i64 a.2.2.2] T (0, 0))).heap.size = w.heap.size + 1 by simp] at hh
  exact hh
theorem wi_cp (a b : Vec) : wi a b = true ↔ ∀ k, k < 4 → cp a k ≤ cp b k := by
  rw [wi_iff]
  constructor
  · rintro ⟨h0, h1, h2, h3⟩ k hk
    match k, hk with
    | 0, _ => exact h0
    | 1, _ => exact h1
    | 2, _ => exact h2
    | 3, _ => exact h3
  · intro h
    exact ⟨h 0 (by omega), h 1 (by omega), h 2 (by omega), h 3 (by omega)⟩
end Go.Proofs.Ytokcpgpchiikgaa
