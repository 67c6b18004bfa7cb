/-
  Rows of ints of the call's own: an element read and stored, an append that says where the row lies then. Condition: the lengths are below the bounds that each theorem names.
-/
import Derived.Test.YtkpmmojfnhfflaaRow
import Derived.Deep.OwnRows
namespace Go.Proofs.Ytkpmmojfnhfflaa
open Go.RowKit

theorem ints_set (l : List Int) (i : Nat) (x : Int) : ints (l.set i x) = (ints l).set i (.int .i64 x) := by unfold ints; rw [List.map_set]
theorem OwnI.low {w : World} {base : Nat} {v : Value} {l : List Int} (h : OwnI w base v l) : v = .slice none 0 0 ∧ l = [] ∨ ∃ g c, v = .slice (some ⟨g, 0, none⟩) l.length c ∧ base ≤ g ∧ g < w.heap.size ∧ l.length ≤ c := by
  rcases h.2 with ⟨h0, h1⟩ | ⟨g, cap, cur, hv, hbg, hg, hn, _⟩
  · exact .inl ⟨h0, List.length_eq_zero_iff.1 h1⟩
  · refine .inr ⟨g, cap, hv, hbg, ?_, hn⟩
    rcases Nat.lt_or_ge g w.heap.size with h | h
    · exact h
    · rw [Array.getElem?_eq_none h] at hg; cases hg
theorem OwnI.at {w : World} {base g c : Nat} {l : List Int} (h : OwnI w base (.slice (some ⟨g, 0, none⟩) l.length c) l) {i : Nat} {x : Int} (hx : l[i]? = some x) : w.cell? ⟨g, i, none⟩ = some (.int .i64 x) ∧ w.frozen? ⟨g, i, none⟩ = false := by
  have hi := (List.getElem?_eq_some_iff.1 hx).1
  refine ⟨?_, World.ownsRow.frozenAt h _⟩
  rw [World.ownsRow.cellAt h _ (by omega)]
  exact ints_at l i x hx
theorem OwnI.put {w : World} {base g c : Nat} {l : List Int} (h : OwnI w base (.slice (some ⟨g, 0, none⟩) l.length c) l) (i : Nat) (x : Int) : OwnI (w.setCell ⟨g, i, none⟩ (.int .i64 x)) base (.slice (some ⟨g, 0, none⟩) l.length c) (l.set i x) := by
  have h1 := (World.ownsRow.stored h i (.int .i64 x)).1
  unfold OwnI
  rw [List.length_set, ints_set]
  exact h1
theorem OwnI.atn {w : World} {base g c n : Nat} {l : List Int} (hl : l.length = n) (h : OwnI w base (.slice (some ⟨g, 0, none⟩) n c) l) {i : Nat} {x : Int} (hx : l[i]? = some x) : w.cell? ⟨g, i, none⟩ = some (.int .i64 x) ∧ w.frozen? ⟨g, i, none⟩ = false := by
  subst hl; exact OwnI.at h hx
theorem OwnI.putn {w : World} {base g c n : Nat} {l : List Int} (hl : l.length = n) (h : OwnI w base (.slice (some ⟨g, 0, none⟩) n c) l) (i : Nat) (x : Int) : OwnI (w.setCell ⟨g, i, none⟩ (.int .i64 x)) base (.slice (some ⟨g, 0, none⟩) n c) (l.set i x) := by
  subst hl; exact OwnI.put h i x
/-- Appending one int to a row of the call's own: where the row lies then. -/
theorem app_intW (w : World) {ops : Array Oper} {rest : List Oper} {o : Oper} {a : Act} {Q : Exit → Act → World → Prop} (hgd : o.guard = none) (s x : Operand)
    (ho : o.op = .call { callee := .builtin .append, args := #[s, x], argTypes := #[36, 36] }) (base : Nat) (v : Value) (l : List Int) (m : Int) (hs : a.eval s = v) (hown : OwnI w base v l)
    (k : Nat) (cells : Array Value) (hk : w.heap[k]? = some (.cells cells 3 (0, 0))) (hc : cells = #[.int .i64 m]) (hx : a.eval x = .slice (some ⟨k, 0, none⟩) 1 1) (hb : base ≤ w.heap.size)
    (hl : l.length + 1 ≤ 1099511627776) (h : ∀ v' w', OwnI w' base v' (l ++ [m]) → w.grownBy w' v.ownBlock → (∀ g, v'.ownBlock = some g → v.ownBlock = some g ∨ g = w.heap.size) → wpList Try.prog ops Q rest (a.put o.dst v') w') : wpList Try.prog ops Q (o :: rest) a w := by
  obtain ⟨i, hi, hz, hsz, hby⟩ := info_parts info_int
  refine wpList_append_where w hgd s x 36 ho base 3 i _ 1 8 Try.underlying36 hi hz hsz hby rfl (by decide) v l.length (ints l) hs hown ⟨k, 0, none⟩ 1 1 (ints [m]) hx (by simp) ?_ (ints_one [m]) (by unfold maxLen; omega) (by omega) hb ?_
  · intro j u hu
    have hadd : (⟨k, 0, none⟩ : Addr).add j = ⟨k, j, none⟩ := by unfold Addr.add; split <;> simp_all
    rw [hadd, cell_of_row w k j cells _ _ hk, ← hu, hc]
    simp
  · intro v' w' h1 h2 h3
    refine h v' w' ?_ h2 h3
    unfold OwnI ints
    rw [List.length_append, List.map_append]
    exact h1
end Go.Proofs.Ytkpmmojfnhfflaa
