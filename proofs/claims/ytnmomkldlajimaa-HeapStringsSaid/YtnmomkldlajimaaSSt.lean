/-
  What a heap of strings is in memory: a struct of a function, a slice of numbered strings of the call's own, and a number. Condition: none beyond each theorem's own hypotheses.
-/
import Derived.Test.YtnmomkldlajimaaHLess
import Derived.Test.YtnmomkldlajimaaFrm
namespace Go.Proofs.Ytnmomkldlajimaa.S
open Go.RowKit

abbrev Pr := ByteArray
def Ok2 (_ : Pr) : Prop := True
/-- A numbered string as cells. -/
def ec (e : Pr × Nat) : List Value := [.string e.1, .int .u64 e.2]
theorem ec_len (e : Pr × Nat) : (ec e).length = 2 := rfl
theorem ec_one (e : Pr × Nat) : ∀ u ∈ ec e, u.oneCell' = true := by
  intro u hu
  simp [ec] at hu
  rcases hu with rfl | rfl <;> rfl
/-- A string as cells. -/
def pc (p : Pr) : List Value := [.string p]
theorem pc_len (p : Pr) : (pc p).length = 1 := rfl
theorem pc_one (p : Pr) : ∀ u ∈ pc p, u.oneCell' = true := by
  intro u hu
  simp [pc] at hu
  rcases hu with rfl
  rfl
theorem info_el : (Try.prog.info? 77).map (fun i => (i.zero, i.size, i.bytes)) = some (some (.agg #[.string ByteArray.empty, .int .u64 0]), 2, 24) := by kernel_rfl
theorem info_pr : (Try.prog.info? 9).map (fun i => (i.zero, i.size, i.bytes)) = some (some (.string ByteArray.empty), 1, 16) := by kernel_rfl
abbrev OwnE := @OwnG (Pr × Nat) ec 77 2
abbrev OwnP := @OwnG Pr pc 9 1
abbrev LstP := @LstG Pr pc
/-- The elements stand behind h.elements: h is block B. -/
def St (w : World) (B : Nat) (fn : Value) (l : List (Pr × Nat)) (n : Nat) : Prop := (∀ e ∈ l, Ok2 e.1) ∧ ∃ v, w.heap[B]? = some (.cells #[fn, v, .int .u64 (n : Int)] 75 (0, 0)) ∧ OwnE w (B + 1) v l
theorem St.lt {w : World} {B : Nat} {fn : Value} {l : List (Pr × Nat)} {n : Nat} (h : St w B fn l n) : B < w.heap.size := by
  obtain ⟨_, v, h1, _⟩ := h
  rcases Nat.lt_or_ge B w.heap.size with h | h
  · exact h
  · rw [Array.getElem?_eq_none h] at h1; cases h1
theorem St.keep {w w' : World} {B : Nat} {fn : Value} {l : List (Pr × Nat)} {n : Nat} (h : St w B fn l n) (hk : ∀ j, B ≤ j → j < w.heap.size → w'.heap[j]? = w.heap[j]?) : St w' B fn l n := by
  have hl := h.lt
  obtain ⟨h0, v, h1, h2⟩ := h
  exact ⟨h0, v, (hk B (Nat.le_refl _) hl).trans h1, h2.keep fun j hj => hk j (by omega)⟩
theorem St.below {w w' : World} {B : Nat} {fn : Value} {l : List (Pr × Nat)} {n : Nat} (h : St w B fn l n) (hb : Below w.heap.size w w') : St w' B fn l n := h.keep fun j _ hj => hb.block j hj
/-- What a walk reads of a heap: its three cells. -/
theorem St.cells {w : World} {B : Nat} {fn : Value} {l : List (Pr × Nat)} {n : Nat} (h : St w B fn l n) : ∃ v, w.cell? ⟨B, 0, none⟩ = some fn ∧ w.cell? ⟨B, 1, none⟩ = some v ∧ w.cell? ⟨B, 2, none⟩ = some (.int .u64 (n : Int)) ∧ w.frozen? ⟨B, 0, none⟩ = false ∧ w.frozen? ⟨B, 1, none⟩ = false ∧ w.frozen? ⟨B, 2, none⟩ = false ∧ OwnE w (B + 1) v l := by
  obtain ⟨_, v, h1, h2⟩ := h
  refine ⟨v, ?_, ?_, ?_, frozen_of_row w B 0 _ _ h1, frozen_of_row w B 1 _ _ h1, frozen_of_row w B 2 _ _ h1, h2⟩
  · rw [cell_of_row w B 0 _ _ _ h1]; rfl
  · rw [cell_of_row w B 1 _ _ _ h1]; rfl
  · rw [cell_of_row w B 2 _ _ _ h1]; rfl
theorem St.ok {w : World} {B : Nat} {fn : Value} {l : List (Pr × Nat)} {n : Nat} (h : St w B fn l n) {i : Nat} {a : Pr × Nat} (ha : l[i]? = some a) : Ok2 a.1 := h.1 a (List.mem_iff_getElem?.2 ⟨i, ha⟩)
/-- The types that a heap of strings writes. -/
def HT (T : TypeId) : Prop := T = 75 ∨ T = 77
theorem St.tag {w : World} {B : Nat} {fn : Value} {l : List (Pr × Nat)} {n : Nat} (h : St w B fn l n) : Tag w B 75 := by
  obtain ⟨_, v, h1, _⟩ := h
  exact ⟨_, _, h1⟩
theorem St.stay {w w' : World} {B : Nat} {fn : Value} {l : List (Pr × Nat)} {n : Nat} (h : St w B fn l n) (hk : ∀ g T, HT T → Tag w g T → w'.heap[g]? = w.heap[g]?) : St w' B fn l n := by
  have ht := h.tag
  obtain ⟨h0, v, h1, h2⟩ := h
  exact ⟨h0, v, (hk B _ (.inl rfl) ht).trans h1, h2.stay fun g hg _ => hk g _ (.inr rfl) hg⟩
theorem St.store {w : World} {B : Nat} {fn : Value} {l : List (Pr × Nat)} {n : Nat} (h : St w B fn l n) {p : Addr} {T : TypeId} (ht : Tag w p.block T) (hT : ¬ HT T) (u : Value) : St (w.setCell p u) B fn l n :=
  h.stay fun g U hU hg => RowKit.Below.heap_setCell _ _ _ _ fun e => hT (by rw [e] at hg; rw [ht.uniq hg]; exact hU)
theorem St.grown {α : Type} {enc : α → List Value} {k : Nat} {T : TypeId} {w w' : World} {B : Nat} {fn : Value} {l : List (Pr × Nat)} {n : Nat} (h : St w B fn l n) {base : Nat} {v : Value} {r : List α} (o : OwnG enc T k w base v r) (hT : ¬ HT T) (hg : w.grownBy w' v.ownBlock) : St w' B fn l n :=
  h.stay fun g U hU ht => hg.block g ht.lt fun e => hT (by rw [Tag.uniq (o.block e.symm) ht]; exact hU)
theorem not_ht : ¬ HT 9 := by
  rintro (h | h) <;> cases h
/-- An element's two cells. -/
theorem OwnE.at {w : World} {base g c : Nat} {l : List (Pr × Nat)} (h : OwnE w base (.slice (some ⟨g, 0, none⟩) l.length c) l) {i : Nat} {a : Pr × Nat} (ha : l[i]? = some a) :
    w.cell? ⟨g, i * 2, none⟩ = some (.string a.1) ∧ w.cell? ⟨g, i * 2 + 1, none⟩ = some (.int .u64 (a.2 : Int)) ∧ w.frozen? ⟨g, i * 2, none⟩ = false ∧ w.frozen? ⟨g, i * 2 + 1, none⟩ = false := by
  have hi := (List.getElem?_eq_some_iff.1 ha).1
  refine ⟨?_, ?_, World.ownsRow.frozenAt h _, World.ownsRow.frozenAt h _⟩
  · rw [World.ownsRow.cellAt h _ (by omega)]; exact fl_at ec_len ha 0 (by omega)
  · rw [World.ownsRow.cellAt h _ (by omega)]; exact fl_at ec_len ha 1 (by omega)
/-- A function value: entered wherever it is called; what it answers. -/
def Fun (fn : Value) (less : Pr → Pr → Bool) : Prop := ∃ K, fn = .func (.func K) #[] #[] ∧ (∀ args W, (callFunc K args).run Try.prog W = .ok (.enter K args) W) ∧ ∀ a b : Pr, Ok2 a → Ok2 b → ∀ W : World, Calls Try.prog K #[.string a, .string b] W fun e w' => e = .returned (.bool (less a b)) ∧ Below W.heap.size W w'
end Go.Proofs.Ytnmomkldlajimaa.S
