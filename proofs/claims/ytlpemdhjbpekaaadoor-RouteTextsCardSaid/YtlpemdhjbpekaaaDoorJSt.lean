/-
  A slice of routes in memory: the cells of a route, a route put into a box of its own; the table of the modes' names, which the program lays once. Condition: none beyond each theorem's own hypotheses.
-/
import Derived.Test.YtlpemdhjbpekaaaDoorOpenG
import Derived.Test.YtlpemdhjbpekaaaDoorRowS
import Derived.Test.YtlpemdhjbpekaaaDoorFrm
import Derived.Test.YtlpemdhjbpekaaaDoorMap
import Derived.Test.YtlpemdhjbpekaaaDoorIVal
import Derived.Test.YtlpemdhjbpekaaaDoorBColl
import Derived.Test.YtlpemdhjbpekaaaDoorRte
import Derived.Laws.Rows
namespace Go.Proofs.YtlpemdhjbpekaaaDoor
open Go.RowKit

/-- A route as cells. -/
def re (x : Rt) : List Value := [.string (str x.1), .int .i64 x.2.1, .bool x.2.2]
theorem re_len (x : Rt) : (re x).length = 3 := rfl
abbrev LstR := @LstG Rt re
/-- The three cells of a route. -/
theorem three_at {w : World} {A : Option Addr} {n c : Nat} {l : List Rt} (h : LstR w (.slice A n c) l) {i : Nat} {id : List UInt8} {m : Int} {f : Bool} (hs : l[i]? = some (id, m, f)) {s : ByteArray} (hst : str id = s) :
    ∃ b o, A = some ⟨b, o, none⟩ ∧ b < w.heap.size ∧ w.cell? ⟨b, o + i * 3, none⟩ = some (.string s) ∧ w.cell? ⟨b, o + i * 3 + 1, none⟩ = some (.int .i64 m) ∧ w.cell? ⟨b, o + i * 3 + 2, none⟩ = some (.bool f) := by
  subst hst
  obtain ⟨A', c', hv, _, _, hx⟩ := h
  cases hv
  have hi := (List.getElem?_eq_some_iff.1 hs).1
  obtain ⟨b, o, rfl, hb, hcell⟩ := hx (by omega)
  refine ⟨b, o, rfl, hb, hcell (i * 3) _ (by rw [← Nat.add_zero (i * 3), fl_at re_len hs 0 (by omega)]; rfl), (hcell (i * 3 + 1) _ (by rw [fl_at re_len hs 1 (by omega)]; rfl) : _), (hcell (i * 3 + 2) _ (by rw [fl_at re_len hs 2 (by omega)]; rfl) : _)⟩
/-- A route in a box. -/
abbrev boxR (s : ByteArray) (m : Int) (f : Bool) : Obj := .cells #[.string s, .int .i64 m, .bool f] 50 (0, 0)
theorem box_rt {w w7 : World} {s : ByteArray} {m : Int} {f : Bool} (h : w.alloc (boxR s m f) = w7) :
    Below w.heap.size w w7 ∧ w7.cell? ⟨w.heap.size, 0, none⟩ = some (.string s) ∧ w7.cell? ⟨w.heap.size, 1, none⟩ = some (.int .i64 m) ∧ w7.cell? ⟨w.heap.size, 2, none⟩ = some (.bool f) ∧ w.heap.size < w7.heap.size := by
  subst h
  have c7 := heap_alloc_new w (boxR s m f)
  exact ⟨(Below.refl _ _).alloc (Nat.le_refl _) _, by rw [cell_of_row _ _ 0 _ _ _ c7]; rfl, by rw [cell_of_row _ _ 1 _ _ _ c7]; rfl, by rw [cell_of_row _ _ 2 _ _ _ c7]; rfl, by simp⟩
theorem ret_uw {a b : Nat} (h : a = b) : Ending.returned (.int .u64 (a : Int)) = .returned (.int .u64 (b : Int)) := by rw [h]
theorem ret_fnd {a b : Int} {c d : Bool} (h : a = b) (k : c = d) : Ending.returned (.tuple #[.int .i64 a, .bool c]) = .returned (.tuple #[.int .i64 b, .bool d]) := by rw [h, k]
theorem ret_chk {a b c d : Int} (h : a = b) (k : c = d) : Ending.returned (.tuple #[.int .i64 a, .int .i64 c]) = .returned (.tuple #[.int .i64 b, .int .i64 d]) := by rw [h, k]
theorem ret_nam {a b : ByteArray} {c d : Bool} (h : a = b) (k : c = d) : Ending.returned (.tuple #[.string a, .bool c]) = .returned (.tuple #[.string b, .bool d]) := by rw [h, k]
theorem ret_txt {a b : ByteArray} {c d : Int} (h : a = b) (k : c = d) : Ending.returned (.tuple #[.string a, .int .i64 c]) = .returned (.tuple #[.string b, .int .i64 d]) := by rw [h, k]
theorem str_ne {id : List UInt8} {x : List UInt8} {s t : ByteArray} (hs : str x = s) (ht : str id = t) (h : x ≠ id) : s ≠ t := by
  intro e
  apply h
  have e2 : str x = str id := by rw [hs, ht, e]
  have := congrArg (fun b : ByteArray => b.data.toList) e2
  simpa [str] using this

/-! ### The table of the names -/
/-- The names as values. -/
def nmV : Array Value := #[.string ⟨#[98, 117, 115]⟩, .string ⟨#[116, 114, 97, 109]⟩, .string ⟨#[109, 101, 116, 114, 111]⟩, .string ⟨#[114, 97, 105, 108]⟩, .string ⟨#[102, 101, 114, 114, 121]⟩, .string ⟨#[99, 111, 97, 99, 104]⟩, .string ⟨#[99, 97, 98, 108, 101]⟩, .string ⟨#[102, 117, 110, 105, 99, 117, 108, 97, 114]⟩]
theorem nmV_at (m : Nat) (h : m < 8) : nmV[m]? = some (.string (str (nmR m))) := by
  match m, h with
  | 0, _ => rfl
  | 1, _ => rfl
  | 2, _ => rfl
  | 3, _ => rfl
  | 4, _ => rfl
  | 5, _ => rfl
  | 6, _ => rfl
  | 7, _ => rfl
/-- The tables hold what their initialisers lay. -/
def GoodR (w : World) : Prop := Good w ∧ w.var? Tryd.prog "transit/route.names" = some nmV
theorem gNames : Tryd.prog.globalNamed "transit/route.names" = some 0 := by kernel_rfl
theorem GoodR.below {w w' : World} (h : GoodR w) (b : Below w.heap.size w w') : GoodR w' := ⟨h.1.below b, var?_below b gNames (var_size gNames h.2) h.2⟩
theorem GoodR.name {w : World} (h : GoodR w) (m : Nat) (hm : m < 8) : w.cell? ⟨0, m, none⟩ = some (.string (str (nmR m))) := by
  rw [World.var?_cell gNames h.2 m]
  exact nmV_at m hm
theorem GoodR.row {w : World} (h : GoodR w) : ∃ t fr, w.heap[0]? = some (.cells nmV t fr) := by
  have h2 := h.2
  simp only [World.var?, gNames, Option.bind_some] at h2
  split at h2
  · next c t fr hb => cases h2; exact ⟨t, fr, hb⟩
  · cases h2
theorem size_nm : (Tryd.prog.info? 55).map (·.size) = some nmV.size := by kernel_rfl
/-- The address of a name. -/
theorem nix_run (B k : Nat) (hk : k < 8) (W : World) : (Instr.indexAt 55 (.pointer (some ⟨B, 0, none⟩)) (.int .i64 (k : Int))).run Tryd.prog W = .ok (.pointer (some ⟨B, k, none⟩)) W := by
  have hT := Tryd.underlying55
  have he : Tryd.prog.elem 55 = 9 := by simp [Program.elem, hT]
  have hl : Tryd.prog.arrayLen 55 = 8 := by simp [Program.arrayLen, hT]
  rw [run_indexAt_array W 55 _ _ _ (by rw [he, hl]; exact hT), hl, he, if_pos (by omega)]
  simp [Tryd.sizeOf9, Addr.add]
  try exact fun h => h.symm
end Go.Proofs.YtlpemdhjbpekaaaDoor
