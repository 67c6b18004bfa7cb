/-
  Costs compared; an edge added to a cost; the order of what waits in a queue by its cost. Condition: none beyond each theorem's own hypotheses. What a heap of structs of three ints is in memory: a struct of a function, a slice of numbered pairs of the call's own, and a number. Condition: none beyond each theorem's own hypotheses. Two elements of a heap exchanged. Condition: none beyond each theorem's own hypotheses. Which of two elements of a heap comes before the other one. Condition: keys are ints. An element of a heap raised; its first child; an element lowered. Condition: keys are ints; at most 2^20 elements. The first child of an element of a heap; an element lowered. Condition: keys are ints; at most 2^20 elements. Len, Peek, Pop, Push, New of a heap of structs of three ints. Condition: keys are ints; at most 2^20 elements. Push and New of a heap of structs of three ints; a heap's elements after many. Condition: keys are ints; at most 2^20 elements.
-/
import Derived.Test.YtibakhobgfiklaaMb
import Derived.Test.YtibakhobgfiklaaMa
import Derived.BigRegion
import Derived.StillTailTactics
import Derived.Deep.RegionLaw
namespace Go.Proofs.Ytibakhobgfiklaa
open Go.RowKit

/-- What waits: a node, its cost. -/
abbrev Pr := Int × Int × Int
def Ok3 (_ : Pr) : Prop := True
def lCost (a b : Pr) : Bool := ltC a.2 b.2
theorem cost_ord : IsOrd lCost := by
  refine ⟨fun a b h1 => ?_, fun a b c h1 h2 => ?_⟩
  · unfold lCost at *
    have := (ltC_iff a.2 b.2).1 h1
    cases h : ltC b.2 a.2 with
    | false => rfl
    | true => have := (ltC_iff b.2 a.2).1 h; omega
  · unfold lCost at *
    have x1 : ¬ _ := fun h => by rw [(ltC_iff a.2 b.2).2 h] at h1; cases h1
    have x2 : ¬ _ := fun h => by rw [(ltC_iff b.2 c.2).2 h] at h2; cases h2
    cases h : ltC a.2 c.2 with
    | false => rfl
    | true => have := (ltC_iff a.2 c.2).1 h; omega
set_option maxHeartbeats 1000000 in
theorem cless_any (c d : Ct) (w : World) : Calls Try.prog 83 #[.agg #[.int .i64 c.1, .int .i64 c.2], .agg #[.int .i64 d.1, .int .i64 d.2]] w fun e w' => e = .returned (.bool (ltC c d)) ∧ Below w.heap.size w w' := by
  have BB : Hid (∀ A B : Obj, Below w.heap.size w ((w.alloc A).alloc B)) := fun A B => ((Below.refl _ _).alloc (Nat.le_refl _) _).alloc (by simp) _
  by_cases h1 : c.1 < d.1
  · have R : Hid (ltC c d = true) := (ltC_iff c d).2 (.inl h1)
    go_enter Try.func83, Try.ntmps83
    go_wp2_with fail
    go_ret
    exact ⟨ret_bool (by rw [R.out]), BB.out _ _⟩
  · have d1 : decide (c.1 < d.1) = false := decide_eq_false h1
    by_cases h2 : c.1 = d.1
    · have e2 : (c.1 == d.1) = true := beq_true h2
      by_cases h3 : c.2 < d.2
      · have R : Hid (ltC c d = true) := (ltC_iff c d).2 (.inr ⟨h2, h3⟩)
        clear h1 h2
        go_enter Try.func83, Try.ntmps83
        go_wp2_with fail
        go_ret
        exact ⟨ret_bool (by rw [R.out]), BB.out _ _⟩
      · have d3 : decide (c.2 < d.2) = false := decide_eq_false h3
        have R : Hid (ltC c d = false) := by
          cases h : ltC c d with
          | false => exact rfl
          | true => have := (ltC_iff c d).1 h; omega
        clear h1 h2 h3
        go_enter Try.func83, Try.ntmps83
        go_wp2_with fail
        go_ret
        exact ⟨ret_bool (by rw [R.out]), BB.out _ _⟩
    · have e2 : (c.1 == d.1) = false := beq_false h2
      have R : Hid (ltC c d = false) := by
        cases h : ltC c d with
        | false => exact rfl
        | true => have := (ltC_iff c d).1 h; omega
      clear h1 h2
      go_enter Try.func83, Try.ntmps83
      go_wp2_with fail
      go_ret
      exact ⟨ret_bool (by rw [R.out]), BB.out _ _⟩
theorem vless_any (a b : Pr) (w : World) : Calls Try.prog 82 #[.agg #[.int .i64 a.1, .int .i64 a.2.1, .int .i64 a.2.2], .agg #[.int .i64 b.1, .int .i64 b.2.1, .int .i64 b.2.2]] w fun e w' => e = .returned (.bool (lCost a b)) ∧ Below w.heap.size w w' := by
  have C := Lib.hid (fun W => cless_any a.2 b.2 W)
  go_enter Try.func82, Try.ntmps82
  go_wp2_with fail
  refine (C.out _).mono ?_
  rintro e w1 ⟨rfl, b1⟩
  go_wp2_with fail
  go_ret
  exact ⟨rfl, (((Below.refl _ _).alloc (Nat.le_refl _) _).alloc (by simp) _).trans (b1.mono (by simp; omega))⟩
/-- A cost with one more edge. -/
theorem plus_any (c : Ct) (u x : Int) (q : Nat) (h1 : -4611686018427387000 ≤ c.1) (h2 : c.1 ≤ 4611686018427387000) (h3 : -4611686018427387000 ≤ c.2) (h4 : c.2 ≤ 4611686018427387000) (hq : q ≤ 4611686018427387000) (w : World) :
    Calls Try.prog 87 #[.agg #[.int .i64 c.1, .int .i64 c.2], .agg #[.int .i64 u, .int .i64 x, .int .i64 (q : Int)]] w fun e w' => e = .returned (.agg #[.int .i64 (plusC c q).1, .int .i64 (plusC c q).2]) ∧ Below w.heap.size w w' := by
  have R : Hid (plusC c q = (c.1 + (q : Int), c.2 + 1)) := rfl
  have W1 : wrap64 (c.1 + (q : Int)) = c.1 + (q : Int) := by unfold wrap64; omega
  go_enter Try.func87, Try.ntmps87
  go_wp2_with fail
  exact bodyPost_ret (v := .agg #[.int .i64 (c.1 + (q : Int)), .int .i64 (c.2 + 1)]) (by simp [results, Try.results87, go_sem]) rfl ⟨by rw [R.out], (((Below.refl _ _).alloc (Nat.le_refl _) _).alloc (by simp) _).alloc (by simp; omega) _⟩
end Go.Proofs.Ytibakhobgfiklaa
namespace Go.Proofs.Ytibakhobgfiklaa
open Go.RowKit

/-- A numbered pair as cells. -/
def ec (e : Pr × Nat) : List Value := [.int .i64 e.1.1, .int .i64 e.1.2.1, .int .i64 e.1.2.2, .int .u64 e.2]
theorem ec_len (e : Pr × Nat) : (ec e).length = 4 := rfl
theorem ec_one (e : Pr × Nat) : ∀ u ∈ ec e, u.oneCell' = true := by
  intro u hu
  simp [ec] at hu
  rcases hu with rfl | rfl | rfl | rfl <;> rfl
/-- A pair as cells. -/
def pc (p : Pr) : List Value := [.int .i64 p.1, .int .i64 p.2.1, .int .i64 p.2.2]
theorem pc_len (p : Pr) : (pc p).length = 3 := rfl
theorem pc_one (p : Pr) : ∀ u ∈ pc p, u.oneCell' = true := by
  intro u hu
  simp [pc] at hu
  rcases hu with rfl | rfl | rfl <;> rfl
theorem info_el : (Try.prog.info? 122).map (fun i => (i.zero, i.size, i.bytes)) = some (some (.agg #[.int .i64 0, .int .i64 0, .int .i64 0, .int .u64 0]), 4, 32) := by kernel_rfl
theorem info_pr : (Try.prog.info? 110).map (fun i => (i.zero, i.size, i.bytes)) = some (some (.agg #[.int .i64 0, .int .i64 0, .int .i64 0]), 3, 24) := by kernel_rfl
abbrev OwnE := @OwnG (Pr × Nat) ec 122 4
abbrev OwnP := @OwnG Pr pc 110 3
abbrev LstP := @LstG Pr pc
/-- The elements stand behind h.elements: h is block B. -/
def St (w : World) (B : Nat) (fn : Value) (l : List (Pr × Nat)) (n : Nat) : Prop := (∀ e ∈ l, Ok3 e.1) ∧ ∃ v, w.heap[B]? = some (.cells #[fn, v, .int .u64 (n : Int)] 120 (0, 0)) ∧ OwnE w (B + 1) v l
theorem St.lt {w : World} {B : Nat} {fn : Value} {l : List (Pr × Nat)} {n : Nat} (h : St w B fn l n) : B < w.heap.size := by
  obtain ⟨_, v, h1, _⟩ := h
  rcases Nat.lt_or_ge B w.heap.size with h | h
  · exact h
  · rw [Array.getElem?_eq_none h] at h1; cases h1
theorem St.keep {w w' : World} {B : Nat} {fn : Value} {l : List (Pr × Nat)} {n : Nat} (h : St w B fn l n) (hk : ∀ j, B ≤ j → j < w.heap.size → w'.heap[j]? = w.heap[j]?) : St w' B fn l n := by
  have hl := h.lt
  obtain ⟨h0, v, h1, h2⟩ := h
  exact ⟨h0, v, (hk B (Nat.le_refl _) hl).trans h1, h2.keep fun j hj => hk j (by omega)⟩
theorem St.below {w w' : World} {B : Nat} {fn : Value} {l : List (Pr × Nat)} {n : Nat} (h : St w B fn l n) (hb : Below w.heap.size w w') : St w' B fn l n := h.keep fun j _ hj => hb.block j hj
/-- What a walk reads of a heap: its three cells. -/
theorem St.cells {w : World} {B : Nat} {fn : Value} {l : List (Pr × Nat)} {n : Nat} (h : St w B fn l n) : ∃ v, w.cell? ⟨B, 0, none⟩ = some fn ∧ w.cell? ⟨B, 1, none⟩ = some v ∧ w.cell? ⟨B, 2, none⟩ = some (.int .u64 (n : Int)) ∧ w.frozen? ⟨B, 0, none⟩ = false ∧ w.frozen? ⟨B, 1, none⟩ = false ∧ w.frozen? ⟨B, 2, none⟩ = false ∧ OwnE w (B + 1) v l := by
  obtain ⟨_, v, h1, h2⟩ := h
  refine ⟨v, ?_, ?_, ?_, frozen_of_row w B 0 _ _ h1, frozen_of_row w B 1 _ _ h1, frozen_of_row w B 2 _ _ h1, h2⟩
  · rw [cell_of_row w B 0 _ _ _ h1]; rfl
  · rw [cell_of_row w B 1 _ _ _ h1]; rfl
  · rw [cell_of_row w B 2 _ _ _ h1]; rfl
theorem St.ok {w : World} {B : Nat} {fn : Value} {l : List (Pr × Nat)} {n : Nat} (h : St w B fn l n) {i : Nat} {a : Pr × Nat} (ha : l[i]? = some a) : Ok3 a.1 := h.1 a (List.mem_iff_getElem?.2 ⟨i, ha⟩)
/-- The types that a heap of structs of three ints writes. -/
def HT (T : TypeId) : Prop := T = 120 ∨ T = 122
theorem St.tag {w : World} {B : Nat} {fn : Value} {l : List (Pr × Nat)} {n : Nat} (h : St w B fn l n) : Tag w B 120 := by
  obtain ⟨_, v, h1, _⟩ := h
  exact ⟨_, _, h1⟩
theorem St.stay {w w' : World} {B : Nat} {fn : Value} {l : List (Pr × Nat)} {n : Nat} (h : St w B fn l n) (hk : ∀ g T, HT T → Tag w g T → w'.heap[g]? = w.heap[g]?) : St w' B fn l n := by
  have ht := h.tag
  obtain ⟨h0, v, h1, h2⟩ := h
  exact ⟨h0, v, (hk B _ (.inl rfl) ht).trans h1, h2.stay fun g hg _ => hk g _ (.inr rfl) hg⟩
theorem St.store {w : World} {B : Nat} {fn : Value} {l : List (Pr × Nat)} {n : Nat} (h : St w B fn l n) {p : Addr} {T : TypeId} (ht : Tag w p.block T) (hT : ¬ HT T) (u : Value) : St (w.setCell p u) B fn l n :=
  h.stay fun g U hU hg => RowKit.Below.heap_setCell _ _ _ _ fun e => hT (by rw [e] at hg; rw [ht.uniq hg]; exact hU)
theorem St.grown {α : Type} {enc : α → List Value} {k : Nat} {T : TypeId} {w w' : World} {B : Nat} {fn : Value} {l : List (Pr × Nat)} {n : Nat} (h : St w B fn l n) {base : Nat} {v : Value} {r : List α} (o : OwnG enc T k w base v r) (hT : ¬ HT T) (hg : w.grownBy w' v.ownBlock) : St w' B fn l n :=
  h.stay fun g U hU ht => hg.block g ht.lt fun e => hT (by rw [Tag.uniq (o.block e.symm) ht]; exact hU)
theorem not_ht : ¬ HT 110 := by
  rintro (h | h) <;> cases h
/-- An element's four cells. -/
theorem OwnE.at {w : World} {base g c : Nat} {l : List (Pr × Nat)} (h : OwnE w base (.slice (some ⟨g, 0, none⟩) l.length c) l) {i : Nat} {a : Pr × Nat} (ha : l[i]? = some a) :
    w.cell? ⟨g, i * 4, none⟩ = some (.int .i64 a.1.1) ∧ w.cell? ⟨g, i * 4 + 1, none⟩ = some (.int .i64 a.1.2.1) ∧ w.cell? ⟨g, i * 4 + 2, none⟩ = some (.int .i64 a.1.2.2) ∧ w.cell? ⟨g, i * 4 + 3, none⟩ = some (.int .u64 (a.2 : Int)) ∧ w.frozen? ⟨g, i * 4, none⟩ = false ∧ w.frozen? ⟨g, i * 4 + 1, none⟩ = false ∧ w.frozen? ⟨g, i * 4 + 2, none⟩ = false ∧ w.frozen? ⟨g, i * 4 + 3, none⟩ = false := by
  have hi := (List.getElem?_eq_some_iff.1 ha).1
  refine ⟨?_, ?_, ?_, ?_, World.ownsRow.frozenAt h _, World.ownsRow.frozenAt h _, World.ownsRow.frozenAt h _, World.ownsRow.frozenAt h _⟩
  · rw [World.ownsRow.cellAt h _ (by omega)]; exact fl_at ec_len ha 0 (by omega)
  · rw [World.ownsRow.cellAt h _ (by omega)]; exact fl_at ec_len ha 1 (by omega)
  · rw [World.ownsRow.cellAt h _ (by omega)]; exact fl_at ec_len ha 2 (by omega)
  · rw [World.ownsRow.cellAt h _ (by omega)]; exact fl_at ec_len ha 3 (by omega)
/-- A function value: entered wherever it is called; what it answers. -/
def Fun (fn : Value) (less : Pr → Pr → Bool) : Prop := ∃ K, fn = .func (.func K) #[] #[] ∧ (∀ args W, (callFunc K args).run Try.prog W = .ok (.enter K args) W) ∧ ∀ a b : Pr, Ok3 a → Ok3 b → ∀ W : World, Calls Try.prog K #[.agg #[.int .i64 a.1, .int .i64 a.2.1, .int .i64 a.2.2], .agg #[.int .i64 b.1, .int .i64 b.2.1, .int .i64 b.2.2]] W fun e w' => e = .returned (.bool (less a b)) ∧ Below W.heap.size W w'
theorem enter_of {P : Program} {K : FuncId} {fn : Func} (hf : P.funcs[K]? = some fn) (hn : (fn.name == "runtime.NumGoroutine") = false) (hb : fn.body.isNone = false) : ∀ args W, (callFunc K args).run P W = .ok (.enter K args) W := by
  intro args W
  unfold callFunc
  simp at hn
  simp [hf, hn]
  intro h0
  rw [h0] at hb
  cases hb
theorem fun_cost : Fun (.func (.func 82) #[] #[]) lCost := ⟨_, rfl, enter_of Try.func82 (by kernel_rfl) (by kernel_rfl), fun a b _ _ W => vless_any a b W⟩
end Go.Proofs.Ytibakhobgfiklaa
namespace Go.Proofs.Ytibakhobgfiklaa
open Go.RowKit

theorem els_set (l : List (Pr × Nat)) (i : Nat) (b : Pr × Nat) (hi : i < l.length) : ((((fl ec l).set (i * 4) (.int .i64 b.1.1)).set (i * 4 + 1) (.int .i64 b.1.2.1)).set (i * 4 + 2) (.int .i64 b.1.2.2)).set (i * 4 + 3) (.int .u64 (b.2 : Int)) = fl ec (l.set i b) := by
  induction l generalizing i with
  | nil => simp at hi
  | cons a r ih =>
    cases i with
    | zero =>
      rw [fl_cons, List.set_cons_zero, fl_cons]
      rfl
    | succ i =>
      rw [List.set_cons_succ, fl_cons, fl_cons, ← ih i (by simpa using hi)]
      rw [show (i + 1) * 4 = i * 4 + 1 + 1 + 1 + 1 by omega, show i * 4 + 1 + 1 + 1 + 1 + 1 = (i * 4 + 1) + 1 + 1 + 1 + 1 by omega, show i * 4 + 1 + 1 + 1 + 1 + 2 = (i * 4 + 2) + 1 + 1 + 1 + 1 by omega, show i * 4 + 1 + 1 + 1 + 1 + 3 = (i * 4 + 3) + 1 + 1 + 1 + 1 by omega]
      rfl
/-- Three cells stored. -/
def put3 (w : World) (g o : Nat) (b : Pr × Nat) : World := (((w.setCell ⟨g, o, none⟩ (.int .i64 b.1.1)).setCell ⟨g, o + 1, none⟩ (.int .i64 b.1.2.1)).setCell ⟨g, o + 2, none⟩ (.int .i64 b.1.2.2)).setCell ⟨g, o + 3, none⟩ (.int .u64 (b.2 : Int))
theorem OwnE.put {w : World} {base g c : Nat} {l : List (Pr × Nat)} (h : OwnE w base (.slice (some ⟨g, 0, none⟩) l.length c) l) {i : Nat} (hi : i < l.length) (b : Pr × Nat) : OwnE (put3 w g (i * 4) b) base (.slice (some ⟨g, 0, none⟩) l.length c) (l.set i b) := by
  have h1 := (World.ownsRow.stored h (i * 4) (.int .i64 b.1.1)).1
  have h2 := (World.ownsRow.stored h1 (i * 4 + 1) (.int .i64 b.1.2.1)).1
  have h3' := (World.ownsRow.stored h2 (i * 4 + 2) (.int .i64 b.1.2.2)).1
  have h3 := (World.ownsRow.stored h3' (i * 4 + 3) (.int .u64 (b.2 : Int))).1
  rw [els_set l i b hi] at h3
  show World.ownsRow _ base _ 4 _ (l.set i b).length (fl ec (l.set i b))
  rw [List.length_set]
  exact h3
theorem put3_block (w : World) (g o : Nat) (b : Pr × Nat) (j : Nat) (hj : j ≠ g) : (put3 w g o b).heap[j]? = w.heap[j]? := by
  unfold put3
  rw [RowKit.Below.heap_setCell _ _ _ _ hj, RowKit.Below.heap_setCell _ _ _ _ hj, RowKit.Below.heap_setCell _ _ _ _ hj, RowKit.Below.heap_setCell _ _ _ _ hj]
theorem put3_fr {w : World} {B g : Nat} (hg : B ≤ g) (ht : Tag w g 122) (o : Nat) (b : Pr × Nat) : Fr HT B w (put3 w g o b) :=
  ((((Fr.refl HT B w).setCell hg (.inr rfl) (fun _ => ht) _).setCell hg (.inr rfl) (fun _ => ht) _).setCell hg (.inr rfl) (fun _ => ht) _).setCell hg (.inr rfl) (fun _ => ht) _
theorem put3_tag {w : World} {g : Nat} {T : TypeId} (ht : Tag w g T) (o : Nat) (b : Pr × Nat) : Tag (put3 w g o b) g T := by
  have one : ∀ {w : World} (_ : Tag w g T) (p : Addr) (u : Value), Tag (w.setCell p u) g T := by
    intro w ⟨cs, f, h⟩ p u
    unfold Tag World.setCell
    rw [Array.getElem?_modify, h]
    split
    · exact ⟨_, _, rfl⟩
    · exact ⟨_, _, rfl⟩
  exact one (one (one (one ht _ _) _ _) _ _) _ _
theorem St.drew {w : World} {B : Nat} {fn : Value} {l : List (Pr × Nat)} {n : Nat} (h : St w B fn l n) : St w.drew B fn l n := h.below (Below.refl _ _).drew
theorem swap_st {fn : Value} {B n : Nat} {l : List (Pr × Nat)} (i j : Nat) (a b : Pr × Nat) (ha : l[i]? = some a) (hb : l[j]? = some b) (w : World) (g c : Nat) (m1 : w.cell? ⟨B, 1, none⟩ = some (.slice (some ⟨g, 0, none⟩) l.length c)) (hg : B < g) (h : St w B fn l n) (o : OwnE w (B + 1) (.slice (some ⟨g, 0, none⟩) l.length c) l) :
    St ((((((((w.setCell ⟨g, i * 4, none⟩ (.int .i64 b.1.1)).setCell ⟨g, i * 4 + 1, none⟩ (.int .i64 b.1.2.1)).setCell ⟨g, i * 4 + 2, none⟩ (.int .i64 b.1.2.2)).setCell ⟨g, i * 4 + 3, none⟩ (.int .u64 (b.2 : Int))).setCell ⟨g, j * 4, none⟩ (.int .i64 a.1.1)).setCell ⟨g, j * 4 + 1, none⟩ (.int .i64 a.1.2.1)).setCell ⟨g, j * 4 + 2, none⟩ (.int .i64 a.1.2.2)).setCell ⟨g, j * 4 + 3, none⟩ (.int .u64 (a.2 : Int))).drew B fn (swp l i j) n ∧
    Fr HT B w ((((((((w.setCell ⟨g, i * 4, none⟩ (.int .i64 b.1.1)).setCell ⟨g, i * 4 + 1, none⟩ (.int .i64 b.1.2.1)).setCell ⟨g, i * 4 + 2, none⟩ (.int .i64 b.1.2.2)).setCell ⟨g, i * 4 + 3, none⟩ (.int .u64 (b.2 : Int))).setCell ⟨g, j * 4, none⟩ (.int .i64 a.1.1)).setCell ⟨g, j * 4 + 1, none⟩ (.int .i64 a.1.2.1)).setCell ⟨g, j * 4 + 2, none⟩ (.int .i64 a.1.2.2)).setCell ⟨g, j * 4 + 3, none⟩ (.int .u64 (a.2 : Int))).drew := by
  have hi := (List.getElem?_eq_some_iff.1 ha).1
  have hj := (List.getElem?_eq_some_iff.1 hb).1
  have K : St (put3 (put3 w g (i * 4) b) g (j * 4) a) B fn (swp l i j) n ∧ Fr HT B w (put3 (put3 w g (i * 4) b) g (j * 4) a) := by
    rw [swp_eq ha hb]
    refine ⟨⟨fun e he => ?_, .slice (some ⟨g, 0, none⟩) l.length c, ?_, ?_⟩, (put3_fr (by omega) o.tag _ _).trans (put3_fr (by omega) (put3_tag o.tag _ _) _ _)⟩
    · rcases List.mem_or_eq_of_mem_set he with he | rfl
      · rcases List.mem_or_eq_of_mem_set he with he | rfl
        · exact h.1 e he
        · exact h.ok hb
      · exact h.ok ha
    · obtain ⟨v, hv, ho⟩ := h.2
      rw [put3_block _ _ _ _ _ (by omega), put3_block _ _ _ _ _ (by omega), hv]
      have m2 : w.cell? ⟨B, 1, none⟩ = some v := by rw [cell_of_row w B 1 _ _ _ hv]; rfl
      rw [m1] at m2
      cases m2
      rfl
    · have h1 := OwnE.put o hi b
      have hl1 : (l.set i b).length = l.length := List.length_set
      rw [← hl1] at h1
      have h2 := OwnE.put h1 (i := j) (by rw [hl1]; exact hj) a
      rw [hl1] at h2
      exact h2
  unfold put3 at K
  exact ⟨K.1.drew, K.2.drew⟩
set_option maxRecDepth 100000 in
set_option maxHeartbeats 4000000 in
theorem swap_any {fn : Value} (B n : Nat) (l : List (Pr × Nat)) (i j : Nat) (a b : Pr × Nat) (ha : l[i]? = some a) (hb : l[j]? = some b) (hij : i ≠ j) (hl : l.length ≤ 1048576) (w : World) (h : St w B fn l n) :
    Calls Try.prog 94 #[.pointer (some ⟨B, 0, none⟩), .int .i64 (i : Int), .int .i64 (j : Int)] w fun e w' => e = .returned (.tuple #[]) ∧ St w' B fn (swp l i j) n ∧ Fr HT B w w' := by
  have hi := (List.getElem?_eq_some_iff.1 ha).1
  have hj := (List.getElem?_eq_some_iff.1 hb).1
  obtain ⟨v, m0, m1, m2, -, -, -, o⟩ := h.cells
  rcases o.low with ⟨-, rfl⟩ | ⟨g, c, rfl, g0, g1, hc⟩
  · simp at hi
  obtain ⟨x0, x1, x2, x3, r0, r1, r2, r3⟩ := OwnE.at o ha
  obtain ⟨y0, y1, y2, y3, s0, s1, s2, s3⟩ := OwnE.at o hb
  have hi' : (i : Int) < (l.length : Int) := by omega
  have hj' : (j : Int) < (l.length : Int) := by omega
  have hB := h.lt
  have HA := Lib.hid ha
  have HB := Lib.hid hb
  have H := Lib.hid h
  have O := Lib.hid o
  clear h ha hb o m0 m2
  go_enter Try.func94, Try.ntmps94
  go_wp2_with fail
  go_region
  have K := Lib.hid (swap_st i j a b HA.out HB.out w g c m1 (by omega) H.out O.out)
  go_wp2_with fail
  go_end0
  exact ⟨rfl, K.out.1, K.out.2⟩
end Go.Proofs.Ytibakhobgfiklaa
namespace Go.Proofs.Ytibakhobgfiklaa
open Go.RowKit

/-- Two new blocks. -/
theorem two_new (w : World) (A B : Array Value) (T U : TypeId) : Below w.heap.size w ((w.alloc (.cells A T (0, 0))).alloc (.cells B U (0, 0))).drew ∧ (∀ k, (((w.alloc (.cells A T (0, 0))).alloc (.cells B U (0, 0))).drew).cell? ⟨w.heap.size, k, none⟩ = A[k]?) ∧ (∀ k, (((w.alloc (.cells A T (0, 0))).alloc (.cells B U (0, 0))).drew).cell? ⟨w.heap.size + 1, k, none⟩ = B[k]?) ∧ w.heap.size + 2 = (((w.alloc (.cells A T (0, 0))).alloc (.cells B U (0, 0))).drew).heap.size := by
  refine ⟨(((Below.refl _ _).alloc (Nat.le_refl _) _).alloc (by simp) _).drew, fun k => ?_, fun k => ?_, ?_⟩
  · show ((w.alloc (.cells A T (0, 0))).alloc (.cells B U (0, 0))).cell? _ = _
    exact cell_of_row _ _ k _ _ _ (heap_alloc2_old w _ _)
  · show ((w.alloc (.cells A T (0, 0))).alloc (.cells B U (0, 0))).cell? _ = _
    exact cell_of_row _ _ k _ _ _ (heap_alloc2_new w _ _)
  · show _ = ((w.alloc (.cells A T (0, 0))).alloc (.cells B U (0, 0))).heap.size
    simp
theorem ret_boolb {a b : Bool} (h : a = b) {w w' : World} {B : Nat} (hb : Below B w w') : Ending.returned (.bool a) = Ending.returned (.bool b) ∧ Below B w w' := ⟨by rw [h], hb⟩
set_option maxRecDepth 100000 in
set_option maxHeartbeats 4000000 in
theorem before_any {fn : Value} {less : Pr → Pr → Bool} (hf : Fun fn less) (B n : Nat) (l : List (Pr × Nat)) (i j : Nat) (a b : Pr × Nat) (ha : l[i]? = some a) (hb : l[j]? = some b) (hl : l.length ≤ 1048576) (w : World) (h : St w B fn l n) :
    Calls Try.prog 93 #[.pointer (some ⟨B, 0, none⟩), .int .i64 (i : Int), .int .i64 (j : Int)] w fun e w' => e = .returned (.bool (bef less a b)) ∧ Below w.heap.size w w' := by
  obtain ⟨K, rfl, ce, cc⟩ := hf
  have C := Lib.hid (cc a.1 b.1 (h.ok ha) (h.ok hb))
  have D := Lib.hid (cc b.1 a.1 (h.ok hb) (h.ok ha))
  clear cc
  have hi := (List.getElem?_eq_some_iff.1 ha).1
  have hj := (List.getElem?_eq_some_iff.1 hb).1
  obtain ⟨v, m0, m1, m2, -, -, -, o⟩ := h.cells
  rcases o.low with ⟨-, rfl⟩ | ⟨g, c, rfl, g0, g1, hc⟩
  · simp at hi
  obtain ⟨x0, x1, x2, x3, -⟩ := OwnE.at o ha
  obtain ⟨y0, y1, y2, y3, -⟩ := OwnE.at o hb
  clear o
  have hi' : (i : Int) < (l.length : Int) := by omega
  have hj' : (j : Int) < (l.length : Int) := by omega
  have hB := h.lt
  clear h ha hb
  have M0 := Lib.hid m0
  obtain ⟨x, hx⟩ : ∃ x, less a.1 b.1 = x := ⟨_, rfl⟩
  obtain ⟨y, hy⟩ : ∃ y, less b.1 a.1 = y := ⟨_, rfl⟩
  have HR : Hid (bef less a b = (x || (decide (a.2 < b.2) && !y))) := by unfold bef; rw [hx, hy]; exact rfl
  rw [hx] at C
  rw [hy] at D
  clear hx hy
  go_enter Try.func93, Try.ntmps93
  go_wp2_with fail
  go_region
  (obtain ⟨b1, z0, z1, hz⟩ := two_new w #[.int .i64 a.1.1, .int .i64 a.1.2.1, .int .i64 a.1.2.2, .int .u64 (a.2 : Int)] #[.int .i64 b.1.1, .int .i64 b.1.2.1, .int .i64 b.1.2.2, .int .u64 (b.2 : Int)] 122 122
   generalize ((w.alloc (.cells #[.int .i64 a.1.1, .int .i64 a.1.2.1, .int .i64 a.1.2.2, .int .u64 (a.2 : Int)] 122)).alloc (.cells #[.int .i64 b.1.1, .int .i64 b.1.2.1, .int .i64 b.1.2.2, .int .u64 (b.2 : Int)] 122)).drew = w1 at b1 z0 z1 hz ⊢
   rotate_left)
  (obtain ⟨b1, z0, z1, hz⟩ := two_new w #[.int .i64 b.1.1, .int .i64 b.1.2.1, .int .i64 b.1.2.2, .int .u64 (b.2 : Int)] #[.int .i64 a.1.1, .int .i64 a.1.2.1, .int .i64 a.1.2.2, .int .u64 (a.2 : Int)] 122 122
   generalize ((w.alloc (.cells #[.int .i64 b.1.1, .int .i64 b.1.2.1, .int .i64 b.1.2.2, .int .u64 (b.2 : Int)] 122)).alloc (.cells #[.int .i64 a.1.1, .int .i64 a.1.2.1, .int .i64 a.1.2.2, .int .u64 (a.2 : Int)] 122)).drew = w1 at b1 z0 z1 hz ⊢)
  all_goals
    have k0 := z0 0
    have k1 := z0 1
    have k2 := z0 2
    have k3 := z0 3
    have j0 := z1 0
    have j1 := z1 1
    have j2 := z1 2
    have j3 := z1 3
    simp at k0 k1 k2 k3 j0 j1 j2 j3
    have m1 := (b1.cell (p := ⟨B, 0, none⟩) hB).trans M0.out
    have B1 := Lib.hid b1
    have HZ := Lib.hid hz
    clear z0 z1 x0 x1 x2 x3 y0 y1 y2 y3 m0 m2 b1 hz
    go_wp2_with fail
    go_still_tail 8, (by kernel_rfl)
    change wpList _ _ _ _ _ w1.drew
    go_wp2_with fail
    refine (rel (W := w1) (C.out _) (Below.refl _ _).drew).mono ?_
    rintro e w3 ⟨rfl, b3⟩
    have n0 := (b3.cell (p := ⟨w.heap.size, 0, none⟩) (by have := HZ.out; show w.heap.size < _; omega)).trans k0
    have n1 := (b3.cell (p := ⟨w.heap.size, 1, none⟩) (by have := HZ.out; show w.heap.size < _; omega)).trans k1
    have n2 := (b3.cell (p := ⟨w.heap.size, 2, none⟩) (by have := HZ.out; show w.heap.size < _; omega)).trans k2
    have n3 := (b3.cell (p := ⟨w.heap.size, 3, none⟩) (by have := HZ.out; show w.heap.size < _; omega)).trans k3
    have o0 := (b3.cell (p := ⟨w.heap.size + 1, 0, none⟩) (by have := HZ.out; show w.heap.size + 1 < _; omega)).trans j0
    have o1 := (b3.cell (p := ⟨w.heap.size + 1, 1, none⟩) (by have := HZ.out; show w.heap.size + 1 < _; omega)).trans j1
    have o2 := (b3.cell (p := ⟨w.heap.size + 1, 2, none⟩) (by have := HZ.out; show w.heap.size + 1 < _; omega)).trans j2
    have o3 := (b3.cell (p := ⟨w.heap.size + 1, 3, none⟩) (by have := HZ.out; show w.heap.size + 1 < _; omega)).trans j3
    have p0 := (b3.cell (p := ⟨B, 0, none⟩) (by have := HZ.out; show B < _; omega)).trans m1
    have B3 : Hid (Below w.heap.size w w3) := B1.out.trans (b3.mono B1.out.size)
    clear b3 k0 k1 k2 k3 j0 j1 j2 j3 m1 B1 HZ C M0
    cases x with
    | true =>
      clear n0 n1 n2 n3 o0 o1 o2 o3 p0 D
      go_wp2_with fail
      go_ret
      exact ret_boolb (by rw [HR.out]; rfl) B3.out
    | false =>
      by_cases hn : a.2 < b.2
      · go_wp2_with fail
        go_still_tail 14, (by kernel_rfl)
        change wpList _ _ _ _ _ w3.drew
        go_wp2_with fail
        refine (rel (W := w3) (D.out _) (Below.refl _ _).drew).mono ?_
        rintro e w4 ⟨rfl, b4⟩
        have B4 : Hid (Below w.heap.size w w4) := B3.out.trans (b4.mono B3.out.size)
        clear n0 n1 n2 n3 o0 o1 o2 o3 p0 b4
        go_wp2_with fail
        go_ret
        exact ret_boolb (by rw [HR.out]; simp [hn]) B4.out
      · have hd : decide (a.2 < b.2) = false := decide_eq_false hn
        clear D p0
        go_wp2_with fail
        go_quiet (fail)
        go_wp2_with fail
        go_ret
        exact ret_boolb (by rw [HR.out, hd]; rfl) (below_drewN B3.out _)
end Go.Proofs.Ytibakhobgfiklaa
namespace Go.Proofs.Ytibakhobgfiklaa
open Go.RowKit

theorem raise_yes {less : Pr → Pr → Bool} {l : List (Pr × Nat)} {i : Nat} (h0 : 0 < i) (hb : befAt less l i ((i - 1) / 2) = true) : raise less l i = raise less (swp l i ((i - 1) / 2)) ((i - 1) / 2) := by
  conv => lhs; unfold raise
  rw [dif_pos ⟨h0, hb⟩]
theorem raise_no {less : Pr → Pr → Bool} {l : List (Pr × Nat)} {i : Nat} (h : ¬ (0 < i ∧ befAt less l i ((i - 1) / 2) = true)) : raise less l i = l := by
  unfold raise
  rw [dif_neg h]
set_option maxRecDepth 100000 in
set_option maxHeartbeats 4000000 in
theorem raise_any {fn : Value} {less : Pr → Pr → Bool} (hf : Fun fn less) (B n : Nat) (l : List (Pr × Nat)) (i : Nat) (hi : i < l.length) (hl : l.length ≤ 1048576) (w : World) (h : St w B fn l n) :
    Calls Try.prog 89 #[.pointer (some ⟨B, 0, none⟩), .int .i64 (i : Int)] w fun e w' => e = .returned (.tuple #[]) ∧ St w' B fn (raise less l i) n ∧ Fr HT B w w' := by
  have HF := Lib.hid hf
  have HB : B < w.heap.size := h.lt
  have H := Lib.hid h
  clear h hf
  go_enter Try.func89, Try.ntmps89
  go_wp2_with fail
  go_loopw [1] (fun u wr => ∃ (k : Nat) (l' : List (Pr × Nat)), u = .int .i64 (k : Int) ∧ k < l'.length ∧ l'.length = l.length ∧ Hid (raise less l' k = raise less l i) ∧ Hid (St wr B fn l' n) ∧ Hid (Fr HT B w wr)) (fun u _ => (intOf u).toNat)
  case atStart => exact ⟨i, l, rfl, hi, rfl, Lib.hid rfl, H, Lib.hid (Fr.refl _ _ _)⟩
  case round =>
    obtain ⟨k, l', rfl, hk, hl', HR, HS, HW⟩ := hrel
    by_cases h0 : 0 < k
    · obtain ⟨a, ha⟩ := at_lt hk
      have RN := Lib.hid (fun x y => raise_yes (less := less) (l := l') (i := k) x y)
      have R0 := Lib.hid (fun x => raise_no (less := less) (l := l') (i := k) x)
      obtain ⟨p, hpe⟩ : ∃ p, (k - 1) / 2 = p := ⟨_, rfl⟩
      rw [hpe] at RN R0
      have hp : p < l'.length := by omega
      have hkp : p < k := by omega
      obtain ⟨b, hb⟩ := at_lt hp
      have e1 : ((k : Int) - 1) / 2 = (p : Int) := by omega
      have C := Lib.hid (before_any HF.out B n l' k p a b ha hb (by omega) wr HS.out)
      have D := Lib.hid (fun W hw => swap_any (fn := fn) B n l' k p a b ha hb (by omega) (by omega) W hw)
      have T := befAt_eq less ha hb
      have g1 : (1 : Int) ≤ (k : Int) := by omega
      have SL := Lib.hid (swp_len l' k p)
      clear ha hb hpe
      cases hx : bef less a b with
      | true =>
        rw [hx] at C T
        have E := Lib.hid (RN.out h0 T)
        clear T RN R0 hx
        go_wp2_with fail
        refine C.out.mono ?_
        rintro e w1 ⟨rfl, b1⟩
        have S1 := Lib.hid (HS.out.below b1)
        have W1 : Hid (Fr HT B w w1) := HW.out.trans (Below.fr b1)
        clear b1 HS HW C
        go_wp2_with fail
        refine (D.out _ S1.out).mono ?_
        rintro e w2 ⟨rfl, s2, b2⟩
        have S2 := Lib.hid s2
        have W2 : Hid (Fr HT B w w2) := W1.out.trans b2
        clear b2 s2 S1 W1 D
        go_wp2_with fail
        go_roundw
        case rel => exact ⟨p, _, rfl, by rw [SL.out]; exact hp, by rw [SL.out]; exact hl', Lib.hid (E.out.symm.trans HR.out), S2, W2⟩
        case measure => simp [intOf]; omega
      | false =>
        rw [hx] at C T
        have E := Lib.hid (R0.out (by rw [T]; simp))
        clear T RN R0 hx D
        go_wp2_with fail
        refine C.out.mono ?_
        rintro e w1 ⟨rfl, b1⟩
        have S1 : Hid (St w1 B fn (raise less l i) n) := by
          rw [← HR.out, E.out]
          exact HS.out.below b1
        have W1 : Hid (Fr HT B w w1) := HW.out.trans (Below.fr b1)
        clear b1 HS HW C
        go_wp2_with fail
        refine bodyPost_ret (results_none rfl _ _ _) rfl ?_
        exact ⟨rfl, S1.out, W1.out⟩
    · have S1 : Hid (St wr B fn (raise less l i) n) := by
        rw [← HR.out, raise_no (fun h => h0 h.1)]
        exact HS.out
      clear HS
      have hk0 : k = 0 := by omega
      subst hk0
      go_wp2_with fail
      go_end0
      exact ⟨rfl, S1.out, HW.out⟩
end Go.Proofs.Ytibakhobgfiklaa
namespace Go.Proofs.Ytibakhobgfiklaa
open Go.RowKit

set_option maxRecDepth 100000 in
set_option maxHeartbeats 4000000 in
theorem child_any {fn : Value} {less : Pr → Pr → Bool} (hf : Fun fn less) (B n : Nat) (l : List (Pr × Nat)) (i : Nat) (hi : i < l.length) (hl : l.length ≤ 1048576) (w : World) (h : St w B fn l n) :
    Calls Try.prog 96 #[.pointer (some ⟨B, 0, none⟩), .int .i64 (i : Int)] w fun e w' => e = .returned (.int .i64 ((kid less l i : Nat) : Int)) ∧ Below w.heap.size w w' := by
  obtain ⟨r, hr⟩ : ∃ r, 2 * i + 2 = r := ⟨_, rfl⟩
  obtain ⟨m, hm⟩ : ∃ m, 2 * i + 1 = m := ⟨_, rfl⟩
  have K : kid less l i = if r < l.length ∧ befAt less l r m = true then r else m := by unfold kid; rw [hr, hm]
  have e2 : 2 * (i : Int) + 2 = (r : Int) := by omega
  have e1 : 2 * (i : Int) + 1 = (m : Int) := by omega
  have hri : r ≤ 2097154 := by omega
  obtain ⟨v, m0, m1, m2, -, -, -, o⟩ := h.cells
  rcases o.low with ⟨-, rfl⟩ | ⟨g, c, rfl, g0, g1, hc⟩
  · simp at hi
  clear m0 m2 o g0 g1 hc
  have HL := Lib.hid hl
  have HI := Lib.hid hi
  by_cases c1 : r < l.length
  · obtain ⟨b, hb⟩ := at_lt c1
    have c2 : m < l.length := by omega
    obtain ⟨a, ha⟩ := at_lt c2
    have C := Lib.hid (before_any hf B n l r m b a hb ha (by omega) w h)
    have T := befAt_eq less hb ha
    clear h hf hb ha hr hm
    cases hx : bef less b a with
    | true =>
      rw [hx] at C T
      rw [if_pos ⟨c1, T⟩] at K
      have KK := Lib.hid K
      clear K T hx
      go_enter Try.func96, Try.ntmps96
      go_wp2_with fail
      refine C.out.mono ?_
      rintro e w1 ⟨rfl, b1⟩
      clear m1
      go_wp2_with fail
      go_ret
      exact ⟨ret_int (by rw [KK.out]), b1⟩
    | false =>
      rw [hx] at C T
      rw [if_neg (by rw [T]; simp)] at K
      have KK := Lib.hid K
      clear K T hx
      go_enter Try.func96, Try.ntmps96
      go_wp2_with fail
      refine C.out.mono ?_
      rintro e w1 ⟨rfl, b1⟩
      clear m1
      go_wp2_with fail
      go_ret
      exact ⟨ret_int (by rw [KK.out]), b1⟩
  · rw [if_neg (fun h => c1 h.1)] at K
    have KK := Lib.hid K
    have d1 : decide (r < l.length) = false := decide_eq_false c1
    clear K h hf hr hm
    go_enter Try.func96, Try.ntmps96
    go_wp2_with fail
    go_ret
    exact ⟨ret_int (by rw [KK.out]), Below.refl _ _⟩
theorem lower_yes {less : Pr → Pr → Bool} {l : List (Pr × Nat)} {i c : Nat} (hc : kid less l i = c) (hb : befAt less l c i = true) : lower less l i = lower less (swp l i c) c := by
  subst hc
  conv => lhs; unfold lower
  rw [dif_pos ⟨(befAt_lt less hb).1, hb⟩]
theorem lower_no {less : Pr → Pr → Bool} {l : List (Pr × Nat)} {i c : Nat} (hc : kid less l i = c) (h : ¬ (c < l.length ∧ befAt less l c i = true)) : lower less l i = l := by
  subst hc
  unfold lower
  rw [dif_neg h]
/-- The length of what a heap holds, as it is read. -/
theorem St.slice {w : World} {B : Nat} {fn : Value} {l : List (Pr × Nat)} {n : Nat} (h : St w B fn l n) : ∃ A c, w.cell? ⟨B, 1, none⟩ = some (.slice A l.length c) := by
  obtain ⟨v, _, m1, _, _, _, _, o⟩ := h.cells
  obtain ⟨A, c, rfl, _⟩ := ownK_shape o
  exact ⟨A, c, m1⟩
set_option maxRecDepth 100000 in
set_option maxHeartbeats 4000000 in
theorem lower_any {fn : Value} {less : Pr → Pr → Bool} (hf : Fun fn less) (B n : Nat) (l : List (Pr × Nat)) (i : Nat) (hi : i < l.length) (hl : l.length ≤ 1048576) (w : World) (h : St w B fn l n) :
    Calls Try.prog 91 #[.pointer (some ⟨B, 0, none⟩), .int .i64 (i : Int)] w fun e w' => e = .returned (.tuple #[]) ∧ St w' B fn (lower less l i) n ∧ Fr HT B w w' := by
  have HF := Lib.hid hf
  have H := Lib.hid h
  clear h hf
  go_enter Try.func91, Try.ntmps91
  go_wp2_with fail
  go_loopw [1] (fun u wr => ∃ (k : Nat) (l' : List (Pr × Nat)), u = .int .i64 (k : Int) ∧ k < l'.length ∧ l'.length = l.length ∧ Hid (lower less l' k = lower less l i) ∧ Hid (St wr B fn l' n) ∧ Hid (Fr HT B w wr)) (fun u _ => l.length - (intOf u).toNat)
  case atStart => exact ⟨i, l, rfl, hi, rfl, Lib.hid rfl, H, Lib.hid (Fr.refl _ _ _)⟩
  case round =>
    obtain ⟨k, l', rfl, hk, hl', HR, HS, HW⟩ := hrel
    obtain ⟨a, ha⟩ := at_lt hk
    have CH := Lib.hid (child_any HF.out B n l' k hk (by omega) wr HS.out)
    have hkg := kid_gt less l' k
    obtain ⟨c, hc⟩ : ∃ c, kid less l' k = c := ⟨_, rfl⟩
    have RN := Lib.hid (fun y => lower_yes (less := less) hc y)
    have R0 := Lib.hid (fun x => lower_no (less := less) hc x)
    rw [hc] at CH hkg
    clear hc
    go_wp2_with fail
    refine CH.out.mono ?_
    rintro e w1 ⟨rfl, b1⟩
    have S1 := Lib.hid (HS.out.below b1)
    have W1 : Hid (Fr HT B w w1) := HW.out.trans (Below.fr b1)
    obtain ⟨A, cc, m1⟩ := S1.out.slice
    clear b1 HS HW CH
    by_cases hcl : c < l'.length
    · obtain ⟨b, hb⟩ := at_lt hcl
      have C := Lib.hid (before_any HF.out B n l' c k b a hb ha (by omega) w1 S1.out)
      have D := Lib.hid (fun W hw => swap_any (fn := fn) B n l' k c a b ha hb (by omega) (by omega) W hw)
      have T := befAt_eq less hb ha
      have SL := Lib.hid (swp_len l' k c)
      clear ha hb
      have d1 : decide (l'.length ≤ c) = false := decide_eq_false (by omega)
      cases hx : bef less b a with
      | true =>
        rw [hx] at C T
        have E := Lib.hid (RN.out T)
        clear T RN R0 hx
        go_wp2_with fail
        refine C.out.mono ?_
        rintro e w2 ⟨rfl, b2⟩
        have S2 := Lib.hid (S1.out.below b2)
        have W2 : Hid (Fr HT B w w2) := W1.out.trans (Below.fr b2)
        clear b2 S1 W1 C m1
        go_wp2_with fail
        refine (D.out _ S2.out).mono ?_
        rintro e w3 ⟨rfl, s3, b3⟩
        have S3 := Lib.hid s3
        have W3 : Hid (Fr HT B w w3) := W2.out.trans b3
        clear b3 s3 S2 W2 D
        go_wp2_with fail
        go_roundw
        case rel => exact ⟨c, _, rfl, by rw [SL.out]; exact hcl, by rw [SL.out]; exact hl', Lib.hid (E.out.symm.trans HR.out), S3, W3⟩
        case measure => simp [intOf]; omega
      | false =>
        rw [hx] at C T
        have E := Lib.hid (R0.out (by rw [T]; simp))
        clear T RN R0 hx D
        go_wp2_with fail
        refine C.out.mono ?_
        rintro e w2 ⟨rfl, b2⟩
        have S2 : Hid (St w2 B fn (lower less l i) n) := by
          rw [← HR.out, E.out]
          exact S1.out.below b2
        have W2 : Hid (Fr HT B w w2) := W1.out.trans (Below.fr b2)
        clear b2 S1 W1 C m1
        go_wp2_with fail
        refine bodyPost_ret (results_none rfl _ _ _) rfl ?_
        exact ⟨rfl, S2.out, W2.out⟩
    · have E := Lib.hid (R0.out (fun h => hcl h.1))
      have S2 : Hid (St w1 B fn (lower less l i) n) := by
        rw [← HR.out, E.out]
        exact S1.out
      have hcl' : l'.length ≤ c := by omega
      clear RN R0 ha S1
      go_wp2_with fail
      refine bodyPost_ret (results_none rfl _ _ _) rfl ?_
      exact ⟨rfl, S2.out, W1.out⟩
theorem child_nil {fn : Value} (B n : Nat) (w : World) (h : St w B fn [] n) : Calls Try.prog 96 #[.pointer (some ⟨B, 0, none⟩), .int .i64 0] w fun e w' => e = .returned (.int .i64 1) ∧ w = w' := by
  obtain ⟨A, c, m1⟩ := h.slice
  clear h
  simp only [List.length_nil] at m1
  go_enter Try.func96, Try.ntmps96
  go_wp2_with fail
  go_ret
  exact ⟨rfl, rfl⟩
theorem lower_nil {fn : Value} {less : Pr → Pr → Bool} (B n : Nat) (w : World) (h : St w B fn [] n) :
    Calls Try.prog 91 #[.pointer (some ⟨B, 0, none⟩), .int .i64 0] w fun e w' => e = .returned (.tuple #[]) ∧ St w' B fn (lower less [] 0) n ∧ Fr HT B w w' := by
  have e : lower less ([] : List (Pr × Nat)) 0 = [] := lower_no rfl (fun h => by simp at h)
  obtain ⟨A, c, m1⟩ := h.slice
  simp only [List.length_nil] at m1
  have C := Lib.hid (child_nil B n w h)
  have S : Hid (St w B fn (lower less [] 0) n) := by rw [e]; exact h
  clear h e
  go_enter Try.func91, Try.ntmps91
  go_wp2_with fail
  go_loopw [1] (fun u wr => u = .int .i64 0 ∧ w = wr) (fun u _ => (intOf u).toNat)
  case atStart => exact ⟨rfl, rfl⟩
  case round =>
    obtain ⟨rfl, rfl⟩ := hrel
    go_wp2_with fail
    refine C.out.mono ?_
    rintro e w' ⟨rfl, rfl⟩
    go_wp2_with fail
    refine bodyPost_ret (results_none rfl _ _ _) rfl ?_
    exact ⟨rfl, S.out, Fr.refl _ _ _⟩
theorem lower_top {fn : Value} {less : Pr → Pr → Bool} (hf : Fun fn less) (B n : Nat) (l : List (Pr × Nat)) (hl : l.length ≤ 1048576) (w : World) (h : St w B fn l n) :
    Calls Try.prog 91 #[.pointer (some ⟨B, 0, none⟩), .int .i64 0] w fun e w' => e = .returned (.tuple #[]) ∧ St w' B fn (lower less l 0) n ∧ Fr HT B w w' := by
  cases l with
  | nil => exact lower_nil B n w h
  | cons a r => exact lower_any hf B n (a :: r) 0 (by simp) hl w h
end Go.Proofs.Ytibakhobgfiklaa
namespace Go.Proofs.Ytibakhobgfiklaa
open Go.RowKit

theorem len_any {fn : Value} (B n : Nat) (l : List (Pr × Nat)) (w : World) (h : St w B fn l n) : Calls Try.prog 95 #[.pointer (some ⟨B, 0, none⟩)] w fun e w' => e = .returned (.int .i64 ((l.length : Nat) : Int)) ∧ w = w' := by
  obtain ⟨A, c, m1⟩ := h.slice
  clear h
  go_enter Try.func95, Try.ntmps95
  go_wp2_with fail
  go_ret
  exact ⟨rfl, rfl⟩
theorem len_nil (w : World) : Calls Try.prog 95 #[.pointer none] w fun e w' => e = .returned (.int .i64 0) ∧ w = w' := by
  go_enter Try.func95, Try.ntmps95
  go_wp2_with fail
  go_ret
  exact ⟨rfl, rfl⟩
theorem peek_nil (w : World) : Calls Try.prog 90 #[.pointer none] w fun e w' => e = .returned (.tuple #[.agg #[.int .i64 0, .int .i64 0, .int .i64 0], .bool false]) ∧ Below w.heap.size w w' := by
  go_enter Try.func90, Try.ntmps90
  go_wp2_with fail
  refine (len_nil _).mono ?_
  rintro e w' ⟨rfl, rfl⟩
  go_wp2_with fail
  exact bodyPost_ret (v := .tuple #[.agg #[.int .i64 0, .int .i64 0, .int .i64 0], .bool false]) (by simp [results, Try.results90, go_sem]) rfl ⟨rfl, ((Below.refl _ _).alloc (Nat.le_refl _) _).alloc (by simp) _⟩
theorem peek_no {fn : Value} (B n : Nat) (w : World) (h : St w B fn [] n) : Calls Try.prog 90 #[.pointer (some ⟨B, 0, none⟩)] w fun e w' => e = .returned (.tuple #[.agg #[.int .i64 0, .int .i64 0, .int .i64 0], .bool false]) ∧ Below w.heap.size w w' := by
  have C := Lib.hid (len_any B n [] _ (h.below ((Below.refl w.heap.size w).alloc (Nat.le_refl _) (.cells #[.int .i64 0, .int .i64 0, .int .i64 0] 110 (0, 0)))))
  clear h
  go_enter Try.func90, Try.ntmps90
  go_wp2_with fail
  refine C.out.mono ?_
  rintro e w' ⟨rfl, rfl⟩
  go_wp2_with fail
  exact bodyPost_ret (v := .tuple #[.agg #[.int .i64 0, .int .i64 0, .int .i64 0], .bool false]) (by simp [results, Try.results90, go_sem]) rfl ⟨rfl, ((Below.refl _ _).alloc (Nat.le_refl _) _).alloc (by simp) _⟩
theorem peek_yes {fn : Value} (B n : Nat) (l : List (Pr × Nat)) (a : Pr × Nat) (ha : l[0]? = some a) (hl : l.length ≤ 1048576) (w : World) (h : St w B fn l n) : Calls Try.prog 90 #[.pointer (some ⟨B, 0, none⟩)] w fun e w' => e = .returned (.tuple #[.agg #[.int .i64 a.1.1, .int .i64 a.1.2.1, .int .i64 a.1.2.2], .bool true]) ∧ Below w.heap.size w w' := by
  have h' := h.below ((Below.refl w.heap.size w).alloc (Nat.le_refl _) (.cells #[.int .i64 0, .int .i64 0, .int .i64 0] 110 (0, 0)))
  have C := Lib.hid (len_any B n l _ h')
  have hB := h.lt
  obtain ⟨v, m0, m1, m2, -, -, -, o⟩ := h.cells
  have hi := (List.getElem?_eq_some_iff.1 ha).1
  rcases o.low with ⟨-, rfl⟩ | ⟨g, c, rfl, g0, g1, hc⟩
  · simp at hi
  obtain ⟨x0, x1, x2, x3, -⟩ := OwnE.at o ha
  simp at x0 x1 x2
  have gk : ¬ (l.length : Int) = 0 := by omega
  have g2 : (0 : Int) < (l.length : Int) := by omega
  clear h h' m0 m2 x3 o ha
  go_enter Try.func90, Try.ntmps90
  go_wp2_with fail
  refine C.out.mono ?_
  rintro e w' ⟨rfl, rfl⟩
  go_wp2_with fail
  exact bodyPost_ret (v := .tuple #[.agg #[.int .i64 a.1.1, .int .i64 a.1.2.1, .int .i64 a.1.2.2], .bool true]) (by simp [results, Try.results90, go_sem]) rfl ⟨rfl, (Below.refl _ _).alloc (Nat.le_refl _) _⟩
/-- The last element is laid upon the first one. -/
theorem pop_mid {B : Nat} {l : List (Pr × Nat)} (a b : Pr × Nat) (w : World) (g c : Nat) (hl : 0 < l.length) (hg : B < g) (o : OwnE w (B + 1) (.slice (some ⟨g, 0, none⟩) l.length c) l) :
    OwnE (((((w.setCell ⟨g, 0, none⟩ (.int .i64 b.1.1)).setCell ⟨g, 1, none⟩ (.int .i64 b.1.2.1)).setCell ⟨g, 2, none⟩ (.int .i64 b.1.2.2)).setCell ⟨g, 3, none⟩ (.int .u64 (b.2 : Int))).alloc (.cells #[.int .i64 a.1.1, .int .i64 a.1.2.1, .int .i64 a.1.2.2] 110 (0, 0))).drew (B + 1) (.slice (some ⟨g, 0, none⟩) (l.set 0 b).length c) (l.set 0 b) ∧
    (∀ k, k ≠ g → k < w.heap.size → (((((w.setCell ⟨g, 0, none⟩ (.int .i64 b.1.1)).setCell ⟨g, 1, none⟩ (.int .i64 b.1.2.1)).setCell ⟨g, 2, none⟩ (.int .i64 b.1.2.2)).setCell ⟨g, 3, none⟩ (.int .u64 (b.2 : Int))).alloc (.cells #[.int .i64 a.1.1, .int .i64 a.1.2.1, .int .i64 a.1.2.2] 110 (0, 0))).drew.heap[k]? = w.heap[k]?) ∧
    (((((w.setCell ⟨g, 0, none⟩ (.int .i64 b.1.1)).setCell ⟨g, 1, none⟩ (.int .i64 b.1.2.1)).setCell ⟨g, 2, none⟩ (.int .i64 b.1.2.2)).setCell ⟨g, 3, none⟩ (.int .u64 (b.2 : Int))).alloc (.cells #[.int .i64 a.1.1, .int .i64 a.1.2.1, .int .i64 a.1.2.2] 110 (0, 0))).drew.heap[w.heap.size]? = some (.cells #[.int .i64 a.1.1, .int .i64 a.1.2.1, .int .i64 a.1.2.2] 110 (0, 0)) ∧
    Fr HT B w (((((w.setCell ⟨g, 0, none⟩ (.int .i64 b.1.1)).setCell ⟨g, 1, none⟩ (.int .i64 b.1.2.1)).setCell ⟨g, 2, none⟩ (.int .i64 b.1.2.2)).setCell ⟨g, 3, none⟩ (.int .u64 (b.2 : Int))).alloc (.cells #[.int .i64 a.1.1, .int .i64 a.1.2.1, .int .i64 a.1.2.2] 110 (0, 0))).drew ∧
    w.heap.size < (((((w.setCell ⟨g, 0, none⟩ (.int .i64 b.1.1)).setCell ⟨g, 1, none⟩ (.int .i64 b.1.2.1)).setCell ⟨g, 2, none⟩ (.int .i64 b.1.2.2)).setCell ⟨g, 3, none⟩ (.int .u64 (b.2 : Int))).alloc (.cells #[.int .i64 a.1.1, .int .i64 a.1.2.1, .int .i64 a.1.2.2] 110 (0, 0))).drew.heap.size := by
  have hl1 : (l.set 0 b).length = l.length := List.length_set
  have h1 : OwnE (put3 w g 0 b) (B + 1) (.slice (some ⟨g, 0, none⟩) (l.set 0 b).length c) (l.set 0 b) := by
    rw [hl1]
    have := OwnE.put o (i := 0) hl b
    rw [Nat.zero_mul] at this
    exact this
  have hz : (put3 w g 0 b).heap.size = w.heap.size := by unfold put3; simp [World.setCell]
  have hb : Fr HT B w (put3 w g 0 b) := put3_fr (by omega) o.tag _ _
  have hk := put3_block w g 0 b
  have K : OwnE ((put3 w g 0 b).alloc (.cells #[.int .i64 a.1.1, .int .i64 a.1.2.1, .int .i64 a.1.2.2] 110 (0, 0))).drew (B + 1) (.slice (some ⟨g, 0, none⟩) (l.set 0 b).length c) (l.set 0 b) ∧
    (∀ k, k ≠ g → k < w.heap.size → ((put3 w g 0 b).alloc (.cells #[.int .i64 a.1.1, .int .i64 a.1.2.1, .int .i64 a.1.2.2] 110 (0, 0))).drew.heap[k]? = w.heap[k]?) ∧
    ((put3 w g 0 b).alloc (.cells #[.int .i64 a.1.1, .int .i64 a.1.2.1, .int .i64 a.1.2.2] 110 (0, 0))).drew.heap[w.heap.size]? = some (.cells #[.int .i64 a.1.1, .int .i64 a.1.2.1, .int .i64 a.1.2.2] 110 (0, 0)) ∧
    Fr HT B w ((put3 w g 0 b).alloc (.cells #[.int .i64 a.1.1, .int .i64 a.1.2.1, .int .i64 a.1.2.2] 110 (0, 0))).drew ∧
    w.heap.size < ((put3 w g 0 b).alloc (.cells #[.int .i64 a.1.1, .int .i64 a.1.2.1, .int .i64 a.1.2.2] 110 (0, 0))).drew.heap.size := by
    refine ⟨(h1.below ((Below.refl _ _).alloc (Nat.le_refl _) _)).below (Below.refl _ _).drew, fun k k1 k2 => ?_, ?_, (hb.alloc _).drew, ?_⟩
    · show ((put3 w g 0 b).alloc _).heap[k]? = _
      exact (Go.heap_alloc_old _ _ (by rw [hz]; exact k2)).trans (hk k k1)
    · show ((put3 w g 0 b).alloc _).heap[w.heap.size]? = _
      rw [← hz]
      exact heap_alloc_new _ _
    · show _ < ((put3 w g 0 b).alloc _).heap.size
      simp [hz]
  unfold put3 at K
  exact K
/-- The last place is given up. -/
theorem cut_st {fn : Value} {B n m : Nat} {l : List (Pr × Nat)} (b : Pr × Nat) (hm : l.length - 1 = m) (hb : l[m]? = some b) (ho : ∀ e ∈ l, Ok3 e.1) (w : World) (g c : Nat) (v : Value) (hg : B < g) (hv : w.heap[B]? = some (.cells #[fn, v, .int .u64 (n : Int)] 120 (0, 0))) (o : OwnE w (B + 1) (.slice (some ⟨g, 0, none⟩) (l.set 0 b).length c) (l.set 0 b)) :
    St (((((w.setCell ⟨g, m * 4, none⟩ (.int .i64 0)).setCell ⟨g, m * 4 + 1, none⟩ (.int .i64 0)).setCell ⟨g, m * 4 + 2, none⟩ (.int .i64 0)).setCell ⟨g, m * 4 + 3, none⟩ (.int .u64 0)).setCell ⟨B, 1, none⟩ (.slice (some ⟨g, 0, none⟩) m c)) B fn (cutH l) n ∧
    Fr HT B w (((((w.setCell ⟨g, m * 4, none⟩ (.int .i64 0)).setCell ⟨g, m * 4 + 1, none⟩ (.int .i64 0)).setCell ⟨g, m * 4 + 2, none⟩ (.int .i64 0)).setCell ⟨g, m * 4 + 3, none⟩ (.int .u64 0)).setCell ⟨B, 1, none⟩ (.slice (some ⟨g, 0, none⟩) m c)) := by
  subst hm
  have hj := (List.getElem?_eq_some_iff.1 hb).1
  obtain ⟨a, ha⟩ := at_lt (l := l) (k := 0) (by omega)
  have e : cutH l = ((l.set 0 b).set (l.length - 1) ((0, 0, 0), 0)).take (l.length - 1) := by
    unfold cutH
    rw [swp_eq ha hb]
    apply List.ext_getElem?
    intro k
    rw [List.getElem?_take, List.getElem?_take]
    by_cases hk : k < l.length - 1
    · rw [if_pos hk, if_pos hk, List.getElem?_set_ne (i := l.length - 1) (by omega), List.getElem?_set_ne (i := l.length - 1) (by omega)]
    · rw [if_neg hk, if_neg hk]
  have hb1 : Fr HT B w (put3 w g ((l.length - 1) * 4) ((0, 0, 0), 0)) := put3_fr (by omega) o.tag _ _
  have K : St ((put3 w g ((l.length - 1) * 4) ((0, 0, 0), 0)).setCell ⟨B, 1, none⟩ (.slice (some ⟨g, 0, none⟩) (l.length - 1) c)) B fn (cutH l) n ∧ Fr HT B w ((put3 w g ((l.length - 1) * 4) ((0, 0, 0), 0)).setCell ⟨B, 1, none⟩ (.slice (some ⟨g, 0, none⟩) (l.length - 1) c)) := by
    refine ⟨⟨fun x hx => ?_, .slice (some ⟨g, 0, none⟩) (l.length - 1) c, ?_, ?_⟩, hb1.setCell (Nat.le_refl _) (.inl rfl) (fun _ => ⟨_, _, hv⟩) _⟩
    · have := cut_perm l a ha
      exact ho x (this.symm.subset (List.mem_cons_of_mem _ hx))
    · have hw : (put3 w g ((l.length - 1) * 4) ((0, 0, 0), 0)).heap[B]? = some (.cells #[fn, v, .int .u64 (n : Int)] 120 (0, 0)) := by
        rw [put3_block _ _ _ _ _ (by omega), hv]
      rw [heap_setCell_same _ _ _ _ _ _ hw]
      rfl
    · have hl1 : (l.set 0 b).length = l.length := List.length_set
      have h2 := OwnE.put o (i := l.length - 1) (by rw [hl1]; exact hj) ((0, 0, 0), 0)
      rw [hl1] at h2
      have h3 := OwnG.part ec_len (by rw [List.length_set, hl1]) h2 (l.length - 1) (by omega)
      rw [e]
      exact ownsRow_setCell_below h3 (Nat.lt_succ_self B) _
  unfold put3 at K
  exact K
/-- h.elements[:m]. -/
theorem part_run (g m L c : Nat) (hm : m ≤ L) (hL : L ≤ c) (W : World) : (Instr.slice 118 (.slice (some ⟨g, 0, none⟩) L c) none (some (.int .i64 (m : Int))) none).run Try.prog W = .ok (.slice (some ⟨g, 0, none⟩) m c) W := by
  have he : Try.prog.elem 118 = 122 := by simp [Program.elem, Try.underlying118]
  have hu : Try.prog.underlying 118 = some (.slice (Try.prog.elem 118)) := by rw [he]; exact Try.underlying118
  rw [run_slice_h W 118 _ L c hu .i64 m (by omega) (by omega), he, Try.sizeOf122]
  simp [sliced, Result.andThen, Addr.add_lit]
set_option maxRecDepth 100000 in
set_option maxHeartbeats 4000000 in
theorem pop_yes {fn : Value} {less : Pr → Pr → Bool} (hf : Fun fn less) (B n : Nat) (l : List (Pr × Nat)) (a : Pr × Nat) (ha : l[0]? = some a) (hl : l.length ≤ 1048576) (w : World) (h : St w B fn l n) :
    Calls Try.prog 86 #[.pointer (some ⟨B, 0, none⟩)] w fun e w' => e = .returned (.tuple #[.agg #[.int .i64 a.1.1, .int .i64 a.1.2.1, .int .i64 a.1.2.2], .bool true]) ∧ St w' B fn (popH less l) n ∧ Fr HT B w w' := by
  have hi := (List.getElem?_eq_some_iff.1 ha).1
  obtain ⟨b, hb⟩ := at_lt (l := l) (k := l.length - 1) (by omega)
  have H := Lib.hid h
  have C := Lib.hid (fun W hw => peek_yes (fn := fn) B n l a ha hl W hw)
  have HB := Lib.hid hb
  have HF := Lib.hid hf
  have hB := h.lt
  have hlx : ((l.length : Nat) : Int) - 1 = ((l.length - 1 : Nat) : Int) := by omega
  clear h ha hb hf
  obtain ⟨m, hm⟩ : ∃ m, l.length - 1 = m := ⟨_, rfl⟩
  rw [hm] at hlx HB
  have HM := Lib.hid hm
  have hml : m < l.length := by omega
  clear hm
  go_enter Try.func86, Try.ntmps86
  go_wp2_with fail
  have b0 : Below w.heap.size w (w.alloc (.cells #[.int .i64 0, .int .i64 0, .int .i64 0] 110 (0, 0))) := (Below.refl w.heap.size w).alloc (Nat.le_refl _) _
  refine (C.out _ (H.out.below b0)).mono ?_
  rintro e w1 ⟨rfl, b1⟩
  have S1 := Lib.hid (H.out.below (b0.trans (b1.mono b0.size)))
  have W1 : Hid (Below w.heap.size w w1) := b0.trans (b1.mono b0.size)
  have n0 := (b1.cell (p := ⟨w.heap.size, 0, none⟩) (by simp)).trans (show (w.alloc (.cells #[.int .i64 0, .int .i64 0, .int .i64 0] 110 (0, 0))).cell? ⟨w.heap.size, 0, none⟩ = some (.int .i64 0) by go_simp)
  have n1 := (b1.cell (p := ⟨w.heap.size, 1, none⟩) (by simp)).trans (show (w.alloc (.cells #[.int .i64 0, .int .i64 0, .int .i64 0] 110 (0, 0))).cell? ⟨w.heap.size, 1, none⟩ = some (.int .i64 0) by go_simp)
  have n2 := (b1.cell (p := ⟨w.heap.size, 2, none⟩) (by simp)).trans (show (w.alloc (.cells #[.int .i64 0, .int .i64 0, .int .i64 0] 110 (0, 0))).cell? ⟨w.heap.size, 2, none⟩ = some (.int .i64 0) by go_simp)
  have f0 := (b1.frozen (p := ⟨w.heap.size, 0, none⟩) (by simp)).trans (show (w.alloc (.cells #[.int .i64 0, .int .i64 0, .int .i64 0] 110 (0, 0))).frozen? ⟨w.heap.size, 0, none⟩ = false by go_simp)
  have f1 := (b1.frozen (p := ⟨w.heap.size, 1, none⟩) (by simp)).trans (show (w.alloc (.cells #[.int .i64 0, .int .i64 0, .int .i64 0] 110 (0, 0))).frozen? ⟨w.heap.size, 1, none⟩ = false by go_simp)
  have f2 := (b1.frozen (p := ⟨w.heap.size, 2, none⟩) (by simp)).trans (show (w.alloc (.cells #[.int .i64 0, .int .i64 0, .int .i64 0] 110 (0, 0))).frozen? ⟨w.heap.size, 2, none⟩ = false by go_simp)
  have hz : w.heap.size < w1.heap.size := by have := b1.size; simp at this; omega
  have rb := (b1.block w.heap.size (by simp)).trans (heap_alloc_new w (.cells #[.int .i64 0, .int .i64 0, .int .i64 0] 110 (0, 0)))
  have HZ := Lib.hid hz
  obtain ⟨v, -, m1, -, -, r1, -, o⟩ := H.out.cells
  rcases o.low with ⟨-, hnil⟩ | ⟨g, c, rfl, g0, g1, hc⟩
  · rw [hnil] at hi; simp at hi
  obtain ⟨y0, y1, y2, y3, s0, s1, s2, s3⟩ := OwnE.at o HB.out
  obtain ⟨a', ha'⟩ := at_lt hi
  obtain ⟨x0, x1, x2, x3, t0, t1, t2, t3⟩ := OwnE.at o ha'
  simp only [Nat.zero_mul, Nat.zero_add] at x0 x1 x2 x3 t0 t1 t2 t3
  have O1 : Hid (OwnE w1 (B + 1) (.slice (some ⟨g, 0, none⟩) l.length c) l) := OwnG.below o W1.out
  have bc : ∀ o, w1.cell? ⟨g, o, none⟩ = w.cell? ⟨g, o, none⟩ := fun o => W1.out.cell (p := ⟨g, o, none⟩) g1
  have bf : ∀ o, w1.frozen? ⟨g, o, none⟩ = w.frozen? ⟨g, o, none⟩ := fun o => W1.out.frozen (p := ⟨g, o, none⟩) g1
  rw [← bc] at x0 x1 x2 x3 y0 y1 y2 y3
  rw [← bf] at s0 s1 s2 s3 t0 t1 t2 t3
  have M1 := (W1.out.cell (p := ⟨B, 1, none⟩) hB).trans m1
  have R1 := (W1.out.frozen (p := ⟨B, 1, none⟩) hB).trans r1
  have hml' : (m : Int) < (l.length : Int) := by omega
  have hB1 : B < w1.heap.size := by omega
  have hg1 : g < w1.heap.size := by omega
  clear b0 b1 m1 r1 o C H bc bf ha'
  go_wp2_with fail
  go_region
  obtain ⟨p1, p2, p3, p4, p5⟩ := pop_mid a b w1 g c hi (by omega) O1.out
  generalize (((((w1.setCell ⟨g, 0, none⟩ (.int .i64 b.1.1)).setCell ⟨g, 1, none⟩ (.int .i64 b.1.2.1)).setCell ⟨g, 2, none⟩ (.int .i64 b.1.2.2)).setCell ⟨g, 3, none⟩ (.int .u64 (b.2 : Int))).alloc (.cells #[.int .i64 a.1.1, .int .i64 a.1.2.1, .int .i64 a.1.2.2] 110 (0, 0))).drew = w2 at p1 p2 p3 p4 p5 ⊢
  have q1 := (World.cell?_of_block (w := w1) (a := ⟨B, 1, none⟩) (p2 B (by omega) hB1)).trans M1
  have u1 := (World.frozen?_of_block (w := w1) (a := ⟨B, 1, none⟩) (p2 B (by omega) hB1)).trans R1
  have e0 := (World.cell?_of_block (w := w1) (a := ⟨w.heap.size, 0, none⟩) (p2 w.heap.size (by omega) hz)).trans n0
  have e1 := (World.cell?_of_block (w := w1) (a := ⟨w.heap.size, 1, none⟩) (p2 w.heap.size (by omega) hz)).trans n1
  have e4 := (World.cell?_of_block (w := w1) (a := ⟨w.heap.size, 2, none⟩) (p2 w.heap.size (by omega) hz)).trans n2
  have e5 := (World.frozen?_of_block (w := w1) (a := ⟨w.heap.size, 2, none⟩) (p2 w.heap.size (by omega) hz)).trans f2
  have e2 := (World.frozen?_of_block (w := w1) (a := ⟨w.heap.size, 0, none⟩) (p2 w.heap.size (by omega) hz)).trans f0
  have e3 := (World.frozen?_of_block (w := w1) (a := ⟨w.heap.size, 1, none⟩) (p2 w.heap.size (by omega) hz)).trans f1
  have k0 : w2.cell? ⟨w1.heap.size, 0, none⟩ = some (.int .i64 a.1.1) := by rw [cell_of_row _ _ 0 _ _ _ p3]; rfl
  have k1 : w2.cell? ⟨w1.heap.size, 1, none⟩ = some (.int .i64 a.1.2.1) := by rw [cell_of_row _ _ 1 _ _ _ p3]; rfl
  have k2 : w2.cell? ⟨w1.heap.size, 2, none⟩ = some (.int .i64 a.1.2.2) := by rw [cell_of_row _ _ 2 _ _ _ p3]; rfl
  have hs1 : (l.set 0 b).length = l.length := List.length_set
  obtain ⟨b', hb'⟩ := at_lt (l := l.set 0 b) (k := m) (by omega)
  obtain ⟨z0, z1, z2, z3, i0, i1, i2, i3⟩ := OwnE.at p1 hb'
  obtain ⟨vv, hvv, _⟩ := S1.out.2
  have c1 : vv = .slice (some ⟨g, 0, none⟩) l.length c := by
    have : w1.cell? ⟨B, 1, none⟩ = some vv := by rw [cell_of_row _ _ 1 _ _ _ hvv]; rfl
    rw [M1] at this
    exact (Option.some.inj this).symm
  have CUT := Lib.hid (cut_st b HM.out HB.out S1.out.1 w2 g c vv (by omega) ((p2 B (by omega) hB1).trans hvv) p1)
  have P4 := Lib.hid (show Fr HT B w w2 from (Below.fr W1.out).trans p4)
  have RA := Lib.hid p3
  have RB := Lib.hid ((p2 w.heap.size (by omega) hz).trans rb)
  have PR := part_run g m l.length c (by omega) hc
  have hB2 : B < w2.heap.size := by omega
  have hg2 : g < w2.heap.size := by omega
  clear rb n0 n1 n2 f0 f1 f2 x0 x1 x2 x3 y0 y1 y2 y3 s0 s1 s2 s3 t0 t1 t2 t3 M1 R1 O1 p1 p2 p3 p4 hb' hvv c1 S1 hs1
  go_wp2_with fail
  refine (lower_top HF.out B n (cutH l) (by rw [cut_len]; omega) _ CUT.out.1).mono ?_
  rintro e w3 ⟨rfl, s3, b3⟩
  have b4 := Lib.hid (CUT.out.2.trans b3)
  have S3 := Lib.hid s3
  have ra := b4.out.other RA.out not_ht
  have rb := b4.out.other RB.out not_ht
  have j0 : w3.cell? ⟨w1.heap.size, 0, none⟩ = some (.int .i64 a.1.1) := by rw [cell_of_row _ _ 0 _ _ _ ra]; rfl
  have j1 : w3.cell? ⟨w1.heap.size, 1, none⟩ = some (.int .i64 a.1.2.1) := by rw [cell_of_row _ _ 1 _ _ _ ra]; rfl
  have j2 : w3.cell? ⟨w1.heap.size, 2, none⟩ = some (.int .i64 a.1.2.2) := by rw [cell_of_row _ _ 2 _ _ _ ra]; rfl
  have t0 : w3.cell? ⟨w.heap.size, 0, none⟩ = some (.int .i64 0) := by rw [cell_of_row _ _ 0 _ _ _ rb]; rfl
  have t1 : w3.cell? ⟨w.heap.size, 1, none⟩ = some (.int .i64 0) := by rw [cell_of_row _ _ 1 _ _ _ rb]; rfl
  have t2 : w3.cell? ⟨w.heap.size, 2, none⟩ = some (.int .i64 0) := by rw [cell_of_row _ _ 2 _ _ _ rb]; rfl
  have v2 := frozen_of_row _ _ 2 _ _ rb
  have v0 := frozen_of_row _ _ 0 _ _ rb
  have v1 := frozen_of_row _ _ 1 _ _ rb
  have F4 : Hid (Fr HT B w (((w3.setCell ⟨w.heap.size, 0, none⟩ (.int .i64 a.1.1)).setCell ⟨w.heap.size, 1, none⟩ (.int .i64 a.1.2.1)).setCell ⟨w.heap.size, 2, none⟩ (.int .i64 a.1.2.2))) :=
    ((((P4.out.trans b4.out).setCell (p := ⟨w.heap.size, 0, none⟩) (Nat.le_of_lt hB) (.inl rfl) (fun h => absurd h (Nat.lt_irrefl _)) _).setCell (p := ⟨w.heap.size, 1, none⟩) (Nat.le_of_lt hB) (.inl rfl) (fun h => absurd h (Nat.lt_irrefl _)) _).setCell (p := ⟨w.heap.size, 2, none⟩) (Nat.le_of_lt hB) (.inl rfl) (fun h => absurd h (Nat.lt_irrefl _)) _)
  have T4 : Hid (St (((w3.setCell ⟨w.heap.size, 0, none⟩ (.int .i64 a.1.1)).setCell ⟨w.heap.size, 1, none⟩ (.int .i64 a.1.2.1)).setCell ⟨w.heap.size, 2, none⟩ (.int .i64 a.1.2.2)) B fn (popH less l) n) := by
    have tg : Tag w3 w.heap.size 110 := ⟨_, _, rb⟩
    have tg2 : ∀ {W : World} (_ : Tag W w.heap.size 110) (p : Addr) (u : Value), Tag (W.setCell p u) w.heap.size 110 := by
      intro W ⟨cs, f, h⟩ p u
      unfold Tag World.setCell
      rw [Array.getElem?_modify, h]
      split
      · exact ⟨_, _, rfl⟩
      · exact ⟨_, _, rfl⟩
    exact St.store (T := 110) (St.store (T := 110) (St.store S3.out tg not_ht _) (tg2 tg _ _) not_ht _) (tg2 (tg2 tg _ _) _ _) not_ht _
  clear b3 s3 b4 ra rb CUT RA RB q1 u1 e0 e1 e2 e3 e4 e5 k0 k1 k2 z0 z1 z2 z3 i0 i1 i2 i3
  go_wp2_with fail
  exact bodyPost_ret (v := .tuple #[.agg #[.int .i64 a.1.1, .int .i64 a.1.2.1, .int .i64 a.1.2.2], .bool true]) (by simp [results, Try.results86, go_sem, t0, t1, t2]) rfl ⟨rfl, T4.out, F4.out⟩
end Go.Proofs.Ytibakhobgfiklaa
namespace Go.Proofs.Ytibakhobgfiklaa
open Go.RowKit

theorem push_st {fn : Value} {B n : Nat} {l : List (Pr × Nat)} (x : Pr) (hx : Ok3 x) (ho : ∀ e ∈ l, Ok3 e.1) (w : World) (v v1 : Value) (hv : w.heap[B]? = some (.cells #[fn, v, .int .u64 (n : Int)] 120 (0, 0))) (o : OwnE w (B + 1) v1 (l ++ [(x, n)])) :
    St ((w.setCell ⟨B, 1, none⟩ v1).setCell ⟨B, 2, none⟩ (.int .u64 ((n : Int) + 1))) B fn (l ++ [(x, n)]) (n + 1) ∧ Fr HT B w ((w.setCell ⟨B, 1, none⟩ v1).setCell ⟨B, 2, none⟩ (.int .u64 ((n : Int) + 1))) := by
  have t : Tag w B 120 := ⟨_, _, hv⟩
  have h1 := heap_setCell_same w B 1 _ _ v1 hv
  have h2 := heap_setCell_same (w.setCell ⟨B, 1, none⟩ v1) B 2 _ _ (.int .u64 ((n : Int) + 1)) h1
  refine ⟨⟨fun e he => ?_, v1, ?_, ?_⟩, ((Fr.refl HT B w).setCell (Nat.le_refl _) (.inl rfl) (fun _ => t) _).setCell (Nat.le_refl _) (.inl rfl) (fun _ => t) _⟩
  · rcases List.mem_append.1 he with he | he
    · exact ho e he
    · simp at he
      subst he
      exact hx
  · rw [h2]
    simp
  · exact ownsRow_setCell_below (ownsRow_setCell_below o (Nat.lt_succ_self B) _) (Nat.lt_succ_self B) _
set_option maxRecDepth 100000 in
set_option maxHeartbeats 4000000 in
theorem push_any {fn : Value} {less : Pr → Pr → Bool} (hf : Fun fn less) (B n : Nat) (l : List (Pr × Nat)) (x : Pr) (hx : Ok3 x) (hl : l.length ≤ 1000000) (hn : n ≤ 1000000) (w : World) (h : St w B fn l n) :
    Calls Try.prog 85 #[.pointer (some ⟨B, 0, none⟩), .agg #[.int .i64 x.1, .int .i64 x.2.1, .int .i64 x.2.2]] w fun e w' => e = .returned (.tuple #[]) ∧ St w' B fn (pushH less l n x) (n + 1) ∧ Fr HT B w w' := by
  have HF := Lib.hid hf
  have hB := h.lt
  have h0 := h.below ((Below.refl w.heap.size w).alloc (Nat.le_refl _) (.cells #[.int .i64 x.1, .int .i64 x.2.1, .int .i64 x.2.2] 110 (0, 0)))
  have F0 := Lib.hid ((Fr.refl HT B w).alloc (.cells #[.int .i64 x.1, .int .i64 x.2.1, .int .i64 x.2.2] 110 (0, 0)))
  have HX := Lib.hid hx
  clear h hf hx
  go_enter Try.func85, Try.ntmps85
  go_wp2_with fail
  have rx := heap_alloc_new w (.cells #[.int .i64 x.1, .int .i64 x.2.1, .int .i64 x.2.2] 110 (0, 0))
  have hz : w.heap.size < (w.alloc (.cells #[.int .i64 x.1, .int .i64 x.2.1, .int .i64 x.2.2] 110 (0, 0))).heap.size := by simp
  generalize w.alloc (.cells #[.int .i64 x.1, .int .i64 x.2.1, .int .i64 x.2.2] 110 (0, 0)) = w0 at h0 F0 rx hz ⊢
  have k0 : w0.cell? ⟨w.heap.size, 0, none⟩ = some (.int .i64 x.1) := by rw [cell_of_row _ _ 0 _ _ _ rx]; rfl
  have k1 : w0.cell? ⟨w.heap.size, 1, none⟩ = some (.int .i64 x.2.1) := by rw [cell_of_row _ _ 1 _ _ _ rx]; rfl
  have k2 : w0.cell? ⟨w.heap.size, 2, none⟩ = some (.int .i64 x.2.2) := by rw [cell_of_row _ _ 2 _ _ _ rx]; rfl
  obtain ⟨v, m0, m1, m2, r0, r1, r2, o⟩ := h0.cells
  obtain ⟨A, c, rfl, hc⟩ := ownK_shape o
  have HO := Lib.hid o
  have H0 := Lib.hid h0
  have hB0 : B < w0.heap.size := by omega
  have M2 := Lib.hid m2
  have R1 := Lib.hid r1
  have R2 := Lib.hid r2
  have M1 := Lib.hid m1
  clear o h0 rx hc m0 r0 r1 r2
  go_region_law (first | (refine stepG_one ec_len ec_one (by decide) Try.underlying118 info_el rfl (by decide) _ rfl _ _ rfl (B + 1) _ l (x, n) rfl (World.ownsRow.alloc HO.out _) w0.heap.size _ (heap_alloc_new _ _) rfl rfl (by simp; omega) (by omega) ?_
                          intro v1 w1 own1 b1 gr1
                          obtain ⟨-, hnil⟩ | ⟨g, c1, rfl, g0, g1, hc1⟩ := OwnG.low own1
                          · simp at hnil
                          have q1 : w1.cell? ⟨B, 1, none⟩ = some (.slice A l.length c) := (b1.cell (p := ⟨B, 1, none⟩) (Nat.lt_succ_self B)).trans ((World.cell?_alloc_past _ _ _ (by exact hB0)).trans M1.out)
                          have u1 : w1.frozen? ⟨B, 1, none⟩ = false := (b1.frozen (p := ⟨B, 1, none⟩) (Nat.lt_succ_self B)).trans ((World.frozen?_alloc_past _ _ _ (by exact hB0)).trans R1.out)
                          have q2 : w1.cell? ⟨B, 2, none⟩ = some (.int .u64 (n : Int)) := (b1.cell (p := ⟨B, 2, none⟩) (Nat.lt_succ_self B)).trans ((World.cell?_alloc_past _ _ _ (by exact hB0)).trans M2.out)
                          have u2 : w1.frozen? ⟨B, 2, none⟩ = false := (b1.frozen (p := ⟨B, 2, none⟩) (Nat.lt_succ_self B)).trans ((World.frozen?_alloc_past _ _ _ (by exact hB0)).trans R2.out)
                          have F1 : Hid (Fr HT B w w1) := ((F0.out.alloc _).drew).grown (World.ownsRow.alloc HO.out _) (Nat.le_succ B) (.inr rfl) gr1
                          have X1 : Hid (w1.heap[B]? = w0.heap[B]?) := (b1.block B (Nat.lt_succ_self B)).trans (Go.heap_alloc_old w0 _ hB0)
                          have O1 := Lib.hid own1
                          clear b1 gr1 own1 m1 m2))
  all_goals
    have K : Hid (St ((w1.setCell ⟨B, 1, none⟩ (.slice (some ⟨g, 0, none⟩) (l.length + 1) c1)).setCell ⟨B, 2, none⟩ (.int .u64 ((n : Int) + 1))) B fn (l ++ [(x, n)]) (n + 1) ∧ Fr HT B w ((w1.setCell ⟨B, 1, none⟩ (.slice (some ⟨g, 0, none⟩) (l.length + 1) c1)).setCell ⟨B, 2, none⟩ (.int .u64 ((n : Int) + 1)))) := by
      obtain ⟨hok, vv, hvv, _⟩ := H0.out
      have O2 := O1.out
      simp only [List.length_append, List.length_cons, List.length_nil, Nat.zero_add] at O2
      have K := push_st x HX.out hok w1 vv _ (X1.out.trans hvv) O2
      exact ⟨K.1, F1.out.trans K.2⟩
    clear F1 X1 O1 k0 k1 k2
    go_wp2_with fail
    refine (raise_any HF.out B (n + 1) (l ++ [(x, n)]) l.length (by simp) (by simp; omega) _ K.out.1).mono ?_
    rintro e w2 ⟨rfl, s2, f2⟩
    have S2 := Lib.hid s2
    have F2 := Lib.hid (K.out.2.trans f2)
    clear s2 f2 K q1 q2 u1 u2
    go_wp2_with fail
    go_end0
    exact ⟨rfl, S2.out, F2.out⟩
theorem run_equalIn_fn (d : Nat) (t : TypeId) (fn : Fn) (a b : Array Value) {x y : Array TypeId} {z : Bool} (h : Try.prog.underlying t = some (.func x y z)) (w : World) : (Op.equalIn (d + 1) t (.func fn a b) .nilFunc).run Try.prog w = .ok false w := by
  simp [Op.equalIn, run_underlying h]
theorem run_equal_fn (t : TypeId) (fn : Fn) (a b : Array Value) {x y : Array TypeId} {z : Bool} (h : Try.prog.underlying t = some (.func x y z)) (w : World) : (Op.equal t (.func fn a b) .nilFunc).run Try.prog w = .ok false w := run_equalIn_fn 9999 t fn a b h w
theorem fn_not_nil (t : TypeId) (fn : Fn) (a b : Array Value) {x y : Array TypeId} {z : Bool} (h : Try.prog.underlying t = some (.func x y z)) (w : World) : (binOp BinOp.eql t (.func fn a b) .nilFunc).run Try.prog w = .ok (.bool false) w := by
  simp only [binOp]
  simp [run_equal_fn t fn a b h w]
theorem run_equalIn_nn (d : Nat) (t : TypeId) {x y : Array TypeId} {z : Bool} (h : Try.prog.underlying t = some (.func x y z)) (w : World) : (Op.equalIn (d + 1) t .nilFunc .nilFunc).run Try.prog w = .ok true w := by
  simp [Op.equalIn, run_underlying h]
theorem run_equal_nn (t : TypeId) {x y : Array TypeId} {z : Bool} (h : Try.prog.underlying t = some (.func x y z)) (w : World) : (Op.equal t .nilFunc .nilFunc).run Try.prog w = .ok true w := run_equalIn_nn 9999 t h w
theorem fn_nil (t : TypeId) {x y : Array TypeId} {z : Bool} (h : Try.prog.underlying t = some (.func x y z)) (w : World) : (binOp BinOp.eql t .nilFunc .nilFunc).run Try.prog w = .ok (.bool true) w := by
  simp only [binOp]
  simp [run_equal_nn t h w]
theorem new_any {fn : Value} {less : Pr → Pr → Bool} (hf : Fun fn less) (w : World) :
    Calls Try.prog 81 #[fn] w fun e w' => e = .returned (.pointer (some ⟨w.heap.size, 0, none⟩)) ∧ St w' w.heap.size fn [] 0 ∧ Below w.heap.size w w' := by
  obtain ⟨K, rfl, -, -⟩ := hf
  have FN := fun W => fn_not_nil 112 (.func K) #[] #[] Try.underlying112 W
  go_enter Try.func81, Try.ntmps81
  go_wp2_with fail
  go_ret
  refine ⟨rfl, ⟨(fun e he => by cases he), .slice none 0 0, heap_alloc_new _ _, OwnG.nil _ _ _ _ _⟩, (Below.refl _ _).alloc (Nat.le_refl _) _⟩
theorem pop_zero (p : Value) (w : World) (C : Calls Try.prog 90 #[p] (w.alloc (.cells #[.int .i64 0, .int .i64 0, .int .i64 0] 110 (0, 0))) fun e w' => e = .returned (.tuple #[.agg #[.int .i64 0, .int .i64 0, .int .i64 0], .bool false]) ∧ Below (w.alloc (.cells #[.int .i64 0, .int .i64 0, .int .i64 0] 110 (0, 0))).heap.size (w.alloc (.cells #[.int .i64 0, .int .i64 0, .int .i64 0] 110 (0, 0))) w') :
    Calls Try.prog 86 #[p] w fun e w' => e = .returned (.tuple #[.agg #[.int .i64 0, .int .i64 0, .int .i64 0], .bool false]) ∧ Below w.heap.size w w' := by
  have CC := Lib.hid C
  clear C
  go_enter Try.func86, Try.ntmps86
  go_wp2_with fail
  refine CC.out.mono ?_
  rintro e w1 ⟨rfl, b1⟩
  have b0 : Below w.heap.size w (w.alloc (.cells #[.int .i64 0, .int .i64 0, .int .i64 0] 110 (0, 0))) := (Below.refl w.heap.size w).alloc (Nat.le_refl _) _
  have hz : w.heap.size < w1.heap.size := by have := b1.size; simp at this; omega
  have rb := (b1.block w.heap.size (by simp)).trans (heap_alloc_new w (.cells #[.int .i64 0, .int .i64 0, .int .i64 0] 110 (0, 0)))
  have W1 := Lib.hid (b0.trans (b1.mono b0.size))
  have t0 : w1.cell? ⟨w.heap.size, 0, none⟩ = some (.int .i64 0) := by rw [cell_of_row _ _ 0 _ _ _ rb]; rfl
  have t1 : w1.cell? ⟨w.heap.size, 1, none⟩ = some (.int .i64 0) := by rw [cell_of_row _ _ 1 _ _ _ rb]; rfl
  have t2 : w1.cell? ⟨w.heap.size, 2, none⟩ = some (.int .i64 0) := by rw [cell_of_row _ _ 2 _ _ _ rb]; rfl
  have v2 := frozen_of_row _ _ 2 _ _ rb
  have v0 := frozen_of_row _ _ 0 _ _ rb
  have v1 := frozen_of_row _ _ 1 _ _ rb
  clear rb b0 b1 CC
  go_wp2_with fail
  exact bodyPost_ret (v := .tuple #[.agg #[.int .i64 0, .int .i64 0, .int .i64 0], .bool false]) (by simp [results, Try.results86, go_sem, hz, t0, t1, t2]) rfl ⟨rfl, (((W1.out.setCell (p := ⟨w.heap.size, 0, none⟩) (Nat.le_refl _) _).setCell (p := ⟨w.heap.size, 1, none⟩) (Nat.le_refl _) _).setCell (p := ⟨w.heap.size, 2, none⟩) (Nat.le_refl _) _).alloc (by simp [World.setCell]; omega) _⟩
theorem pop_nil (w : World) : Calls Try.prog 86 #[.pointer none] w fun e w' => e = .returned (.tuple #[.agg #[.int .i64 0, .int .i64 0, .int .i64 0], .bool false]) ∧ Below w.heap.size w w' := pop_zero _ w (peek_nil _)
theorem pop_no {fn : Value} (B n : Nat) (w : World) (h : St w B fn [] n) : Calls Try.prog 86 #[.pointer (some ⟨B, 0, none⟩)] w fun e w' => e = .returned (.tuple #[.agg #[.int .i64 0, .int .i64 0, .int .i64 0], .bool false]) ∧ Below w.heap.size w w' :=
  pop_zero _ w (peek_no B n _ (h.below ((Below.refl _ _).alloc (Nat.le_refl _) _)))
/-- Pop, whatever the heap holds. -/
def Popped (less : Pr → Pr → Bool) (B : Nat) (fn : Value) (n : Nat) (l : List (Pr × Nat)) (w : World) (e : Ending) (w' : World) : Prop :=
  (∃ a, l[0]? = some a ∧ e = .returned (.tuple #[.agg #[.int .i64 a.1.1, .int .i64 a.1.2.1, .int .i64 a.1.2.2], .bool true]) ∧ St w' B fn (popH less l) n ∧ Fr HT B w w') ∨
  (l = [] ∧ e = .returned (.tuple #[.agg #[.int .i64 0, .int .i64 0, .int .i64 0], .bool false]) ∧ St w' B fn [] n ∧ Fr HT B w w')
theorem pop_all {fn : Value} {less : Pr → Pr → Bool} (hf : Fun fn less) (B n : Nat) (l : List (Pr × Nat)) (hl : l.length ≤ 1048576) (w : World) (h : St w B fn l n) :
    Calls Try.prog 86 #[.pointer (some ⟨B, 0, none⟩)] w (Popped less B fn n l w) := by
  cases l with
  | nil => exact (pop_no B n w h).mono fun e w' ⟨h1, h2⟩ => .inr ⟨rfl, h1, h.below h2, Below.fr h2⟩
  | cons a r => exact (pop_yes hf B n (a :: r) a rfl hl w h).mono fun e w' ⟨h1, h2, h3⟩ => .inl ⟨a, rfl, h1, h2, h3⟩
end Go.Proofs.Ytibakhobgfiklaa
