/-
  What a call has left as it was: all blocks below one, and all whose type is none of those that it may write. Condition: none beyond each theorem's own hypotheses.
-/
import Derived.Test.YtkpmmojfnhfflaaRow
namespace Go.Proofs.Ytkpmmojfnhfflaa
open Go.RowKit

/-- Block k holds cells of the type T. -/
def Tag (w : World) (k : Nat) (T : TypeId) : Prop := ∃ cs f, w.heap[k]? = some (.cells cs T f)
/-- Blocks below B, and those of no type of P, are as they were. -/
structure Fr (P : TypeId → Prop) (B : Nat) (w w' : World) : Prop where
  os : w'.os = w.os
  tape : w'.tape = w.tape
  output : w'.output = w.output
  size : w.heap.size ≤ w'.heap.size
  block : ∀ k, k < w.heap.size → (k < B ∨ ∀ T, P T → ¬ Tag w k T) → w'.heap[k]? = w.heap[k]?
variable {P : TypeId → Prop}
theorem Fr.refl (P : TypeId → Prop) (B : Nat) (w : World) : Fr P B w w := ⟨rfl, rfl, rfl, Nat.le_refl _, fun _ _ _ => rfl⟩
theorem Fr.trans {B : Nat} {a b c : World} (h : Fr P B a b) (k : Fr P B b c) : Fr P B a c :=
  ⟨k.os.trans h.os, k.tape.trans h.tape, k.output.trans h.output, Nat.le_trans h.size k.size, fun j hj hc => by
    have e := h.block j hj hc
    refine (k.block j (Nat.lt_of_lt_of_le hj h.size) ?_).trans e
    rcases hc with hc | hc
    · exact .inl hc
    · refine .inr fun T hT ht => hc T hT ?_
      obtain ⟨cs, f, h1⟩ := ht
      exact ⟨cs, f, e ▸ h1⟩⟩
theorem Fr.mono {B B' : Nat} {w w' : World} (h : Fr P B w w') (hb : B' ≤ B) : Fr P B' w w' :=
  ⟨h.os, h.tape, h.output, h.size, fun k hk hc => h.block k hk (hc.imp (fun x => Nat.lt_of_lt_of_le x hb) id)⟩
theorem Below.fr {B : Nat} {w w' : World} (h : Below w.heap.size w w') : Fr P B w w' := ⟨h.os, h.tape, h.output, h.size, fun k hk _ => h.block k hk⟩
theorem Fr.below {B : Nat} {w w' : World} (h : Fr P B w w') (hB : B ≤ w.heap.size) : Below B w w' := ⟨h.os, h.tape, h.output, h.size, fun k hk => h.block k (Nat.lt_of_lt_of_le hk hB) (.inl hk)⟩
theorem Fr.setCell {B : Nat} {a w : World} (h : Fr P B a w) {p : Addr} (hp : B ≤ p.block) {T : TypeId} (hT : P T) (ht : p.block < a.heap.size → Tag a p.block T) (u : Value) : Fr P B a (w.setCell p u) :=
  ⟨h.os, h.tape, h.output, by rw [show (w.setCell p u).heap.size = w.heap.size by simp [World.setCell]]; exact h.size, fun k hk hc => by
    have hne : k ≠ p.block := by
      rintro rfl
      rcases hc with hc | hc
      · omega
      · exact hc T hT (ht hk)
    rw [RowKit.Below.heap_setCell _ _ _ _ hne]
    exact h.block k hk hc⟩
theorem Fr.alloc {B : Nat} {a w : World} (h : Fr P B a w) (o : Obj) : Fr P B a (w.alloc o) :=
  h.trans (Below.fr ((Below.refl _ _).alloc (Nat.le_refl _) _))
theorem Fr.drew {B : Nat} {a w : World} (h : Fr P B a w) : Fr P B a w.drew := ⟨h.os, h.tape, h.output, h.size, h.block⟩
/-- A block of another type. -/
theorem Fr.other {B k : Nat} {w w' : World} (h : Fr P B w w') {cs : Array Value} {T : TypeId} {f : Nat × Nat} (hk : w.heap[k]? = some (.cells cs T f)) (hT : ¬ P T) : w'.heap[k]? = some (.cells cs T f) := by
  have hl : k < w.heap.size := by
    rcases Nat.lt_or_ge k w.heap.size with h | h
    · exact h
    · rw [Array.getElem?_eq_none h] at hk; cases hk
  rw [h.block k hl (.inr fun S hS ⟨cs', f', h1⟩ => ?_), hk]
  rw [hk] at h1
  cases h1
  exact hT hS
theorem OwnG.fr {α : Type} {enc : α → List Value} {k B : Nat} {T : TypeId} {w w' : World} {base : Nat} {v : Value} {l : List α} (h : OwnG enc T k w base v l) (hf : Fr P B w w') (hT : ¬ P T) : OwnG enc T k w' base v l := by
  refine ⟨h.1, ?_⟩
  rcases h.2 with h0 | ⟨g, cap, cur, hv, hbg, hg, hr⟩
  · exact Or.inl h0
  · exact Or.inr ⟨g, cap, cur, hv, hbg, hf.other hg hT, hr⟩
theorem OwnG.tag {α : Type} {enc : α → List Value} {k g n c : Nat} {T : TypeId} {w : World} {base : Nat} {l : List α} (h : OwnG enc T k w base (.slice (some ⟨g, 0, none⟩) n c) l) : Tag w g T := by
  rcases h.2 with ⟨h0, _⟩ | ⟨g', cap, cur, hv, hbg, hg, hr⟩
  · cases h0
  · cases hv
    exact ⟨_, _, hg⟩
theorem OwnG.stay {α : Type} {enc : α → List Value} {k : Nat} {T : TypeId} {w w' : World} {base : Nat} {v : Value} {l : List α} (h : OwnG enc T k w base v l) (hk : ∀ g, Tag w g T → base ≤ g → w'.heap[g]? = w.heap[g]?) : OwnG enc T k w' base v l := by
  refine ⟨h.1, ?_⟩
  rcases h.2 with h0 | ⟨g, cap, cur, hv, hbg, hg, hr⟩
  · exact Or.inl h0
  · exact Or.inr ⟨g, cap, cur, hv, hbg, (hk g ⟨_, _, hg⟩ hbg).trans hg, hr⟩
theorem Tag.uniq {w : World} {k : Nat} {T U : TypeId} (h : Tag w k T) (h' : Tag w k U) : T = U := by
  obtain ⟨_, _, h⟩ := h
  obtain ⟨_, _, h'⟩ := h'
  rw [h] at h'
  cases h'
  rfl
theorem Tag.lt {w : World} {k : Nat} {T : TypeId} (h : Tag w k T) : k < w.heap.size := by
  obtain ⟨_, _, h⟩ := h
  rcases Nat.lt_or_ge k w.heap.size with h' | h'
  · exact h'
  · rw [Array.getElem?_eq_none h'] at h; cases h
/-- The block of a row of the call's own. -/
theorem OwnG.block {α : Type} {enc : α → List Value} {k g : Nat} {T : TypeId} {w : World} {base : Nat} {v : Value} {l : List α} (h : OwnG enc T k w base v l) (hg : v.ownBlock = some g) : Tag w g T := by
  rcases h.2 with ⟨h0, _⟩ | ⟨g', cap, cur, hv, hbg, hg', hr⟩
  · rw [h0] at hg; cases hg
  · rw [hv] at hg; cases hg
    exact ⟨_, _, hg'⟩
theorem Fr.grown {α : Type} {enc : α → List Value} {k B : Nat} {T : TypeId} {a w w' : World} {base : Nat} {v : Value} {l : List α} (h : Fr P B a w) (o : OwnG enc T k w base v l) (hb : B ≤ base) (hT : P T) (hg : w.grownBy w' v.ownBlock) : Fr P B a w' := by
  refine h.trans ⟨hg.os, hg.tape, hg.output, hg.size, fun j hj hc => hg.block j hj fun e => ?_⟩
  rcases hc with hc | hc
  · have := (World.ownsRow.lt o j e.symm).1
    omega
  · exact hc T hT (o.block e.symm)
theorem LstG.fr {α : Type} {enc : α → List Value} {B : Nat} {w w' : World} {v : Value} {l : List α} (h : LstG enc w v l) (hB : w.heap.size ≤ B) (hf : Fr P B w w') : LstG enc w' v l :=
  h.below ⟨hf.os, hf.tape, hf.output, hf.size, fun k hk => hf.block k hk (.inl (Nat.lt_of_lt_of_le hk hB))⟩
end Go.Proofs.Ytkpmmojfnhfflaa
