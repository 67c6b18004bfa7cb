/-
  Bytes made and copied: what a call hands back that makes a byte string, make([]byte, n), the laws at copy. Condition: the lengths are below the bounds that each theorem names.
-/
import Derived.Test.YteojfgpinmpocaaLstB
import Derived.Laws.CopyOwn
namespace Go.Proofs.Yteojfgpinmpocaa
open Go.RowKit

/-- What a call hands back: a slice of its own with these bytes. -/
abbrev GivesB (f : FuncId) (args : Array Value) (w : World) (l : List UInt8) : Prop :=
  Calls Try.prog f args w fun e w' => ∃ u, e = .returned u ∧ OwnB w' w.heap.size u l ∧ Below w.heap.size w w'

/-- Zeros. -/
def zerosB (n : Nat) : List Value := List.replicate n (.int .u8 0)
theorem zeros_len (n : Nat) : (zerosB n).length = n := List.length_replicate
theorem mk_run (n : Nat) (hn : n ≤ 281474976710656) (e : Int) (he : e = n) (W : World) : (Instr.makeSlice 23 (.int .i64 e) (.int .i64 e)).run Try.prog W = .ok (.slice (some ⟨W.heap.size, 0, none⟩) n n) (W.alloc (.cells (zerosB n).toArray 5 (0, 0))) := by
  subst he
  obtain ⟨i, hi, hz, hsz, hby⟩ := info_parts info_u8
  have h := run_make (P := Try.prog) W 23 5 i _ Try.underlying23 hi hz .i64 .i64 n n (by omega) (by omega) (by rw [hby]; omega) (by omega)
  rw [h, hsz]
  have e2 : madeCells (Value.int .u8 0).cells (n * 1) = (zerosB n).toArray := by
    unfold madeCells zerosB Value.cells
    apply Array.ext_getElem?
    intro i
    by_cases hi : i < n
    · simp [hi, Nat.mod_one]
    · simp [hi]
  simp only [Int.toNat_natCast]
  rw [e2]
theorem splice_two {α : Type} (Z X Y : List α) (n : Nat) (hn : X.length = n) (h : Z.length = n + Y.length) : splice (splice Z 0 X) n Y = X ++ Y := by
  subst hn
  unfold splice
  simp only [List.take_zero, List.nil_append, Nat.zero_add]
  have e1 : (X ++ Z.drop X.length).take X.length = X := List.take_left
  have e2 : (X ++ Z.drop X.length).drop (X.length + Y.length) = [] := by
    apply List.drop_eq_nil_of_le
    rw [List.length_append, List.length_drop]
    omega
  rw [e1, e2, List.append_nil]
theorem info_size_u8 : (Try.prog.info? 5).map (·.size) = some 1 := by kernel_rfl
/-- Fails at once where the next operation is no copy. -/
theorem at_copy {P : Program} {ops : Array Oper} {rest : List Oper} {d : Option Tmp} {x : Array Operand} {t : Array TypeId} {ty : TypeId} {pos : String} {after : Array Edge} {g : Option (Nat × Bool)} {a : Act} {w : World} {Q : Exit → Act → World → Prop}
    (h : wpList P ops Q (⟨d, .call ⟨.builtin .copy, x, t⟩, ty, pos, after, g⟩ :: rest) a w) : wpList P ops Q (⟨d, .call ⟨.builtin .copy, x, t⟩, ty, pos, after, g⟩ :: rest) a w := h
theorem at_copy_step {P : Program} {ops : Array Oper} {d : Option Tmp} {x : Array Operand} {t : Array TypeId} {ty : TypeId} {pos : String} {after : Array Edge} {g : Option (Nat × Bool)} {a : Act} {w : World} {K : Act → World → Prop} {Q : Exit → Act → World → Prop} {E : Prop}
    (h : if Region.wanted ⟨d, .call ⟨.builtin .copy, x, t⟩, ty, pos, after, g⟩ (yielded ops a.tmps) = true then Oper.wp P ⟨d, .call ⟨.builtin .copy, x, t⟩, ty, pos, after, g⟩ a w K Q else E) : if Region.wanted ⟨d, .call ⟨.builtin .copy, x, t⟩, ty, pos, after, g⟩ (yielded ops a.tmps) = true then Oper.wp P ⟨d, .call ⟨.builtin .copy, x, t⟩, ty, pos, after, g⟩ a w K Q else E := h
end Go.Proofs.Yteojfgpinmpocaa
