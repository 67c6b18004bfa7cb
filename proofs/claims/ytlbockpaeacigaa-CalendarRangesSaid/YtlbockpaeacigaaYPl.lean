/-
  A map from places (a calendar and a day) to bools that a call makes: which places it holds; what a look-up answers, what a store leaves. Condition: the entries are fewer than 2^40, the numbers are of 64 bits.
-/
import Derived.Test.YtlbockpaeacigaaYSt
import Derived.DeepKeys4
namespace Go.Proofs.Ytlbockpaeacigaa
open Go.RowKit Go.Maps Go.WideMaps

theorem pl_laid : laidOutB Try.prog = true := by kernel_rfl
theorem pl_row : (64 : TypeId) < Try.prog.types.size := of_decide_eq_true (by kernel_rfl)
theorem pl_wide : (match Try.prog.underlying 64 with | some (.array _ _) | some (.struct _) => true | _ => false) = true := by kernel_rfl
theorem pl_cells : Try.prog.cellsOf 64 = 2 := by kernel_rfl
theorem int_cells : Try.prog.cellsOf 3 = 1 := by kernel_rfl
theorem pl_key : Try.prog.keyType 64 = true := by kernel_rfl
theorem pl_law : Keyed Try.prog 64 := Keyed.of_law (deep_law_laid pl_laid (m := 2) (by omega) pl_row (by kernel_rfl) pl_wide)
theorem pl_types : ∃ m, Try.prog.types.size = m + 1 := by
  cases h : Try.prog.types.size with
  | zero => exact absurd (h ▸ pl_row : (_ : Nat) < 0) (Nat.not_lt_zero _)
  | succ m => exact ⟨m, rfl⟩
/-- Both numbers are of 64 bits. -/
def Pl64 (p : Int × Int) : Prop := (-9223372036854775808 ≤ p.1 ∧ p.1 ≤ 9223372036854775807) ∧ -9223372036854775808 ≤ p.2 ∧ p.2 ≤ 9223372036854775807
/-- A place as a key. -/
def kp (p : Int × Int) : List UInt8 := keyBytes [.int .i64 p.1, .int .i64 p.2]
theorem key_pl (p : Int × Int) (h : Pl64 p) : keyOf Try.prog 64 (.agg #[.int .i64 p.1, .int .i64 p.2]) = some (.string (kp p)) := by
  have w1 := WalkArith.wf_i64 h.1
  have w2 := WalkArith.wf_i64 h.2
  have hu := Try.underlying64
  have hi := Try.underlying3
  obtain ⟨m, hm⟩ := pl_types
  unfold keyOf
  simp only [hu]
  rw [if_pos (by simp [pl_key, Value.formed, hu, pl_cells]), hm]
  unfold Program.keyLits
  simp only [hu, Value.cells]
  rw [if_pos ⟨by rw [pl_cells]; rfl, by simp⟩]
  simp [int_cells, Program.keyLits, hi, w1, w2, kp]
theorem kp_inj {p q : Int × Int} (hp : Pl64 p) (hq : Pl64 q) (h : kp p = kp q) : p = q := by
  have h1 := key_pl p hp
  have h2 := key_pl q hq
  rw [← h] at h2
  have := pl_law.inj h1 h2
  simp at this
  exact Prod.ext this.1 this.2
/-- Block b is a map from these places to true. -/
def MapP (w : World) (b : Nat) (ls : List (Int × Int)) : Prop := (∀ p ∈ ls, Pl64 p) ∧ ∃ D : Dm, w.ownsMap Try.prog 64 (plainElem Try.prog 4) b ls.length D ∧ IsMap D ∧ (∀ p, Pl64 p → has D (.string (kp p)) = decide (p ∈ ls)) ∧ ∀ p z, p ∈ ls → D.atKey (.string (kp p)) z = .lit (.bool true)
theorem MapP.made (w : World) : MapP (w.alloc (.map #[] 0)) w.heap.size [] := ⟨fun p hp => absurd hp (by simp), .map [], World.ownsMap_made _ _ _ _, isMap_empty, fun x _ => by simp [has_eq], fun x z h => by simp at h⟩
theorem MapP.lt {w : World} {b : Nat} {ls : List (Int × Int)} (h : MapP w b ls) : b < w.heap.size := by
  obtain ⟨_, D, h1, _⟩ := h
  exact h1.lt
theorem MapP.below {w w' : World} {b : Nat} {ls : List (Int × Int)} (h : MapP w b ls) (hb : Below w.heap.size w w') : MapP w' b ls := by
  obtain ⟨h0, D, h1, h2⟩ := h
  exact ⟨h0, D, h1.kept (below_but hb) (by simp), h2⟩
theorem MapP.look {w : World} {b : Nat} {ls : List (Int × Int)} (h : MapP w b ls) (p : Int × Int) (hp : Pl64 p) :
    (Instr.lookup 61 (.map (some b)) (.agg #[.int .i64 p.1, .int .i64 p.2]) false).run Try.prog w = .ok (.bool (decide (p ∈ ls))) w := by
  obtain ⟨h0, D, h1, h2, h3, h4⟩ := h
  obtain ⟨v, ps, hrun, hv⟩ := h1.lookup pl_law Try.underlying61 (zero_bool w) (plainElem_bool Try.underlying4 false) (key_pl p hp)
  obtain ⟨c, rfl, hc⟩ := plain_bool_inv hv
  have hc := congrArg Prod.fst hc
  rw [hrun]
  have : c = decide (p ∈ ls) := by
    by_cases hm : p ∈ ls
    · rw [h4 _ _ hm] at hc
      simp at hc
      simp [hm, ← hc]
    · rw [atKey_of_not_has (by rw [h3 p hp]; exact decide_eq_false hm)] at hc
      simp at hc
      simp [hm, ← hc]
  rw [this]
/-- Storing true at a place. -/
theorem put_pl (w : World) {ops : Array Oper} {rest : List Oper} {o : Oper} {a : Act} {Q : Exit → Act → World → Prop} (hgd : o.guard = none) (m x v : Operand) (ho : o.op = Op.mapUpdate 61 m x v)
    (b : Nat) (ls : List (Int × Int)) (hm : a.eval m = .map (some b)) (hown : MapP w b ls) (p : Int × Int) (hp : Pl64 p) (hx : a.eval x = .agg #[.int .i64 p.1, .int .i64 p.2]) (hv : a.eval v = .bool true)
    (hl : ls.length < 1099511627776) (h : ∀ w', MapP w' b (ls ++ [p]) → w.grownBy w' (some b) → wpList Try.prog ops Q rest (a.put o.dst undef) w') : wpList Try.prog ops Q (o :: rest) a w := by
  obtain ⟨h0, D, h1, h2, h3, h4⟩ := hown
  refine wpList_mapUpdate_own w hgd m x v 61 ho 64 4 pl_law Try.underlying61 _ b ls.length D hm h1 (by unfold maxLen; omega) _ _ _ hx hv (key_pl p hp) _ [] (plainElem_bool Try.underlying4 true) ?_
  intro w' g1 g2
  refine h w' ⟨fun q hq => ?_, _, by rw [List.length_append]; exact g1, h2.put _ _, fun q hq => ?_, fun q z hi => ?_⟩ g2
  · rcases List.mem_append.1 hq with hq | hq
    · exact h0 q hq
    · rw [List.mem_singleton.1 hq]; exact hp
  · by_cases hx : q = p
    · subst hx
      rw [has_put_same h2 (by simp [WideAt.IsKeyLit])]
      simp
    · rw [has_put_other (fun e => hx (kp_inj hq hp (by simpa using e))), h3 q hq]
      simp [hx]
  · by_cases hx : q = p
    · subst hx
      rw [atKey_put_same h2 (by simp [WideAt.IsKeyLit])]
    · have hq : q ∈ ls := by simpa [hx] using hi
      rw [atKey_put_other (fun e => hx (kp_inj (h0 q hq) hp (by simpa using e)))]
      exact h4 q z hq
end Go.Proofs.Ytlbockpaeacigaa
