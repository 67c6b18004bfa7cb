/-
  What a heap of structs of three ints is in memory: a struct of a function, a slice of numbered pairs of the call's own, and a number. Condition: none beyond each theorem's own hypotheses.
-/
import Derived.Test.YtahbgafjljfndaaZLess
import Derived.Test.YtahbgafjljfndaaFrm
namespace Go.Proofs.Ytahbgafjljfndaa
open Go.RowKit

/-- A numbered pair as cells. -/
def ec (e : Pr × Nat) : List Value := [.int .i64 e.1.1, .int .i64 e.1.2.1, .int .i64 e.1.2.2, .int .u64 e.2]
theorem ec_len (e : Pr × Nat) : (ec e).length = 4 := rfl
theorem ec_one (e : Pr × Nat) : ∀ u ∈ ec e, u.oneCell' = true := by
  intro u hu
  simp [ec] at hu
  rcases hu with rfl | rfl | rfl | rfl <;> rfl
/-- A pair as cells. -/
def pc (p : Pr) : List Value := [.int .i64 p.1, .int .i64 p.2.1, .int .i64 p.2.2]
theorem pc_len (p : Pr) : (pc p).length = 3 := rfl
theorem pc_one (p : Pr) : ∀ u ∈ pc p, u.oneCell' = true := by
  intro u hu
  simp [pc] at hu
  rcases hu with rfl | rfl | rfl <;> rfl
theorem info_el : (Try.prog.info? 79).map (fun i => (i.zero, i.size, i.bytes)) = some (some (.agg #[.int .i64 0, .int .i64 0, .int .i64 0, .int .u64 0]), 4, 32) := by kernel_rfl
theorem info_pr : (Try.prog.info? 66).map (fun i => (i.zero, i.size, i.bytes)) = some (some (.agg #[.int .i64 0, .int .i64 0, .int .i64 0]), 3, 24) := by kernel_rfl
abbrev OwnE := @OwnG (Pr × Nat) ec 79 4
abbrev OwnP := @OwnG Pr pc 66 3
abbrev LstP := @LstG Pr pc
/-- The elements stand behind h.elements: h is block B. -/
def St (w : World) (B : Nat) (fn : Value) (l : List (Pr × Nat)) (n : Nat) : Prop := (∀ e ∈ l, Ok3 e.1) ∧ ∃ v, w.heap[B]? = some (.cells #[fn, v, .int .u64 (n : Int)] 77 (0, 0)) ∧ OwnE w (B + 1) v l
theorem St.lt {w : World} {B : Nat} {fn : Value} {l : List (Pr × Nat)} {n : Nat} (h : St w B fn l n) : B < w.heap.size := by
  obtain ⟨_, v, h1, _⟩ := h
  rcases Nat.lt_or_ge B w.heap.size with h | h
  · exact h
  · rw [Array.getElem?_eq_none h] at h1; cases h1
theorem St.keep {w w' : World} {B : Nat} {fn : Value} {l : List (Pr × Nat)} {n : Nat} (h : St w B fn l n) (hk : ∀ j, B ≤ j → j < w.heap.size → w'.heap[j]? = w.heap[j]?) : St w' B fn l n := by
  have hl := h.lt
  obtain ⟨h0, v, h1, h2⟩ := h
  exact ⟨h0, v, (hk B (Nat.le_refl _) hl).trans h1, h2.keep fun j hj => hk j (by omega)⟩
theorem St.below {w w' : World} {B : Nat} {fn : Value} {l : List (Pr × Nat)} {n : Nat} (h : St w B fn l n) (hb : Below w.heap.size w w') : St w' B fn l n := h.keep fun j _ hj => hb.block j hj
/-- What a walk reads of a heap: its three cells. -/
theorem St.cells {w : World} {B : Nat} {fn : Value} {l : List (Pr × Nat)} {n : Nat} (h : St w B fn l n) : ∃ v, w.cell? ⟨B, 0, none⟩ = some fn ∧ w.cell? ⟨B, 1, none⟩ = some v ∧ w.cell? ⟨B, 2, none⟩ = some (.int .u64 (n : Int)) ∧ w.frozen? ⟨B, 0, none⟩ = false ∧ w.frozen? ⟨B, 1, none⟩ = false ∧ w.frozen? ⟨B, 2, none⟩ = false ∧ OwnE w (B + 1) v l := by
  obtain ⟨_, v, h1, h2⟩ := h
  refine ⟨v, ?_, ?_, ?_, frozen_of_row w B 0 _ _ h1, frozen_of_row w B 1 _ _ h1, frozen_of_row w B 2 _ _ h1, h2⟩
  · rw [cell_of_row w B 0 _ _ _ h1]; rfl
  · rw [cell_of_row w B 1 _ _ _ h1]; rfl
  · rw [cell_of_row w B 2 _ _ _ h1]; rfl
theorem St.ok {w : World} {B : Nat} {fn : Value} {l : List (Pr × Nat)} {n : Nat} (h : St w B fn l n) {i : Nat} {a : Pr × Nat} (ha : l[i]? = some a) : Ok3 a.1 := h.1 a (List.mem_iff_getElem?.2 ⟨i, ha⟩)
/-- The types that a heap of structs of three ints writes. -/
def HT (T : TypeId) : Prop := T = 77 ∨ T = 79
theorem St.tag {w : World} {B : Nat} {fn : Value} {l : List (Pr × Nat)} {n : Nat} (h : St w B fn l n) : Tag w B 77 := by
  obtain ⟨_, v, h1, _⟩ := h
  exact ⟨_, _, h1⟩
theorem St.stay {w w' : World} {B : Nat} {fn : Value} {l : List (Pr × Nat)} {n : Nat} (h : St w B fn l n) (hk : ∀ g T, HT T → Tag w g T → w'.heap[g]? = w.heap[g]?) : St w' B fn l n := by
  have ht := h.tag
  obtain ⟨h0, v, h1, h2⟩ := h
  exact ⟨h0, v, (hk B _ (.inl rfl) ht).trans h1, h2.stay fun g hg _ => hk g _ (.inr rfl) hg⟩
theorem St.store {w : World} {B : Nat} {fn : Value} {l : List (Pr × Nat)} {n : Nat} (h : St w B fn l n) {p : Addr} {T : TypeId} (ht : Tag w p.block T) (hT : ¬ HT T) (u : Value) : St (w.setCell p u) B fn l n :=
  h.stay fun g U hU hg => RowKit.Below.heap_setCell _ _ _ _ fun e => hT (by rw [e] at hg; rw [ht.uniq hg]; exact hU)
theorem St.grown {α : Type} {enc : α → List Value} {k : Nat} {T : TypeId} {w w' : World} {B : Nat} {fn : Value} {l : List (Pr × Nat)} {n : Nat} (h : St w B fn l n) {base : Nat} {v : Value} {r : List α} (o : OwnG enc T k w base v r) (hT : ¬ HT T) (hg : w.grownBy w' v.ownBlock) : St w' B fn l n :=
  h.stay fun g U hU ht => hg.block g ht.lt fun e => hT (by rw [Tag.uniq (o.block e.symm) ht]; exact hU)
theorem not_ht : ¬ HT 66 := by
  rintro (h | h) <;> cases h
/-- An element's four cells. -/
theorem OwnE.at {w : World} {base g c : Nat} {l : List (Pr × Nat)} (h : OwnE w base (.slice (some ⟨g, 0, none⟩) l.length c) l) {i : Nat} {a : Pr × Nat} (ha : l[i]? = some a) :
    w.cell? ⟨g, i * 4, none⟩ = some (.int .i64 a.1.1) ∧ w.cell? ⟨g, i * 4 + 1, none⟩ = some (.int .i64 a.1.2.1) ∧ w.cell? ⟨g, i * 4 + 2, none⟩ = some (.int .i64 a.1.2.2) ∧ w.cell? ⟨g, i * 4 + 3, none⟩ = some (.int .u64 (a.2 : Int)) ∧ w.frozen? ⟨g, i * 4, none⟩ = false ∧ w.frozen? ⟨g, i * 4 + 1, none⟩ = false ∧ w.frozen? ⟨g, i * 4 + 2, none⟩ = false ∧ w.frozen? ⟨g, i * 4 + 3, none⟩ = false := by
  have hi := (List.getElem?_eq_some_iff.1 ha).1
  refine ⟨?_, ?_, ?_, ?_, World.ownsRow.frozenAt h _, World.ownsRow.frozenAt h _, World.ownsRow.frozenAt h _, World.ownsRow.frozenAt h _⟩
  · rw [World.ownsRow.cellAt h _ (by omega)]; exact fl_at ec_len ha 0 (by omega)
  · rw [World.ownsRow.cellAt h _ (by omega)]; exact fl_at ec_len ha 1 (by omega)
  · rw [World.ownsRow.cellAt h _ (by omega)]; exact fl_at ec_len ha 2 (by omega)
  · rw [World.ownsRow.cellAt h _ (by omega)]; exact fl_at ec_len ha 3 (by omega)
/-- A function value: entered wherever it is called; what it answers. -/
def Fun (fn : Value) (less : Pr → Pr → Bool) : Prop := ∃ K, fn = .func (.func K) #[] #[] ∧ (∀ args W, (callFunc K args).run Try.prog W = .ok (.enter K args) W) ∧ ∀ a b : Pr, Ok3 a → Ok3 b → ∀ W : World, Calls Try.prog K #[.agg #[.int .i64 a.1, .int .i64 a.2.1, .int .i64 a.2.2], .agg #[.int .i64 b.1, .int .i64 b.2.1, .int .i64 b.2.2]] W fun e w' => e = .returned (.bool (less a b)) ∧ Below W.heap.size W w'
theorem enter_of {P : Program} {K : FuncId} {fn : Func} (hf : P.funcs[K]? = some fn) (hn : (fn.name == "runtime.NumGoroutine") = false) (hb : fn.body.isNone = false) : ∀ args W, (callFunc K args).run P W = .ok (.enter K args) W := by
  intro args W
  unfold callFunc
  simp at hn
  simp [hf, hn]
  intro h0
  rw [h0] at hb
  cases hb
theorem fun_cost : Fun (.func (.func 35) #[] #[]) lCost := ⟨_, rfl, enter_of Try.func35 (by kernel_rfl) (by kernel_rfl), fun a b _ _ W => vless_any a b W⟩
end Go.Proofs.Ytahbgafjljfndaa
