/-
  A slice of strings that came in or that the call itself made: it reads as a list of strings, and goes on doing so where only new blocks are made; one among the arguments of a row. Condition: none beyond each theorem's own hypotheses.
-/
import Derived.Test.YtkpmmojfnhfflaaOwn
import Derived.Deep.OwnRows
import Derived.Laws.Rows
import Derived.SliceStrings
import Derived.OpenShut
import Derived.Carry
namespace Go.Proofs.Ytkpmmojfnhfflaa
open Go.RowKit

/-- The value is a slice that reads as these strings. -/
def Lst (w : World) (v : Value) (ls : List (List UInt8)) : Prop := ∃ A c, v = .slice A ls.length c ∧ (ls.length ≤ c ∧ (A = none → c = 0)) ∧ (0 < ls.length → ∃ b o, A = some ⟨b, o, none⟩ ∧ b < w.heap.size ∧ ∀ (j : Nat) x, (sts ls)[j]? = some x → w.cell? ⟨b, o + j, none⟩ = some x)
theorem OwnS.lst {w : World} {base : Nat} {v : Value} {l : List (List UInt8)} (h : OwnS w base v l) : Lst w v l := by
  obtain ⟨A, c, hv, hc, hx⟩ := own_shape h
  refine ⟨A, c, hv, ⟨hc, ?_⟩, fun h0 => ?_⟩
  · rintro rfl
    rcases h.2 with ⟨h0, _⟩ | ⟨g, cap, cur, h0, _⟩
    · rw [hv] at h0; simp at h0; exact h0.2
    · rw [hv] at h0; simp at h0
  obtain ⟨g, hA, _, hg, hcell⟩ := hx h0
  exact ⟨g, 0, hA, hg, hcell⟩
theorem Lst.below {w w' : World} {v : Value} {l : List (List UInt8)} (h : Lst w v l) (hb : Below w.heap.size w w') : Lst w' v l := by
  obtain ⟨A, c, hv, hc, hx⟩ := h
  refine ⟨A, c, hv, hc, fun h0 => ?_⟩
  obtain ⟨b, o, hA, hbl, hcell⟩ := hx h0
  exact ⟨b, o, hA, Nat.lt_of_lt_of_le hbl hb.size, fun j x hj => (hb.cell (p := ⟨b, o + j, none⟩) hbl).trans (hcell j x hj)⟩
theorem OwnS.len {w : World} {base : Nat} {v : Value} {l : List (List UInt8)} (h : OwnS w base v l) : l.length ≤ 9223372036854775807 := by
  rcases h.2 with ⟨_, h0⟩ | ⟨g, cap, cur, _, _, _, hn, hm, _⟩
  · omega
  · unfold maxLen at hm
    omega
theorem Lst.nil (w : World) : Lst w (.slice none 0 0) [] := ⟨none, 0, rfl, ⟨Nat.le_refl _, fun _ => rfl⟩, fun h => absurd h (Nat.lt_irrefl _)⟩
theorem sts_at (l : List (List UInt8)) (k : Nat) (x : List UInt8) (h : l[k]? = some x) : (sts l)[k]? = some (.string (str x)) := by
  unfold sts
  rw [List.getElem?_map, h]
  rfl

section
open Go.ChangeShapes Go.WideShapes
theorem cells_string : Try.prog.cellsOf 9 = 1 := by kernel_rfl
theorem laid_out : laidOutB Try.prog = true := by kernel_rfl
end
end Go.Proofs.Ytkpmmojfnhfflaa
