/-
  A map from footpaths without their seconds to bools that a call makes: which keys it holds; what a look-up answers, what a store leaves. Condition: the entries are fewer than 2^40, the numbers are of 64 bits.
-/
import Derived.Test.YtibakhobgfiklaaFpS
import Derived.Maps.OwnSet
import Derived.WalkArith
import Derived.DeepKeys4
namespace Go.Proofs.Ytibakhobgfiklaa
open Go.RowKit Go.Maps Go.WideMaps

abbrev Dm := DataW Unit
/-- A number of 64 bits. -/
def Ix64 (x : Int) : Prop := -9223372036854775808 ≤ x ∧ x ≤ 9223372036854775807
theorem zbool_fp (w : World) : (zeroValue 4).run Try.prog w = .ok (.bool false) w := by kernel_rfl
set_option maxRecDepth 100000 in
theorem pbool_inv {v : Value} {z : Dm × List MemPlace} (h : plainElem Try.prog 4 v = some z) : ∃ x, v = .bool x ∧ z = (.lit (.bool x), []) := by
  unfold plainElem at h
  rw [Try.underlying4] at h
  cases v <;> simp at h
  exact ⟨_, rfl, h.symm⟩
theorem below_no {w w' : World} (hb : Below w.heap.size w w') : w.grownBy w' none := ⟨hb.os, hb.tape, hb.output, hb.size, fun k hk _ => hb.block k hk⟩
theorem fk_laid : laidOutB Try.prog = true := by kernel_rfl
theorem fk_row : (42 : TypeId) < Try.prog.types.size := of_decide_eq_true (by kernel_rfl)
theorem fk_wide : (match Try.prog.underlying 42 with | some (.array _ _) | some (.struct _) => true | _ => false) = true := by kernel_rfl
theorem fk_cells : Try.prog.cellsOf 42 = 4 := by kernel_rfl
theorem fki_cells : Try.prog.cellsOf 3 = 1 := by kernel_rfl
theorem fkb_cells : Try.prog.cellsOf 4 = 1 := by kernel_rfl
theorem fk_key : Try.prog.keyType 42 = true := by kernel_rfl
set_option maxRecDepth 100000 in
theorem fk_law : Keyed Try.prog 42 := Keyed.of_law (deep_law_laid fk_laid (m := 4) (by omega) fk_row (by kernel_rfl) fk_wide)
theorem fk_types : ∃ m, Try.prog.types.size = m + 1 := by
  cases h : Try.prog.types.size with
  | zero => exact absurd (h ▸ fk_row : (_ : Nat) < 0) (Nat.not_lt_zero _)
  | succ m => exact ⟨m, rfl⟩
/-- Both stops are of 64 bits. -/
def Ky64 (p : Int × Int × Bool) : Prop := Ix64 p.1 ∧ Ix64 p.2.1
/-- A footpath without its seconds, as a value, as a key. -/
abbrev kyV (p : Int × Int × Bool) : Value := fpV p.1 p.2.1 0 p.2.2
def kf (p : Int × Int × Bool) : List UInt8 := keyBytes [.int .i64 p.1, .int .i64 p.2.1, .int .i64 0, .bool p.2.2]
theorem key_fp (p : Int × Int × Bool) (h : Ky64 p) : keyOf Try.prog 42 (kyV p) = some (.string (kf p)) := by
  have w1 := WalkArith.wf_i64 h.1
  have w2 := WalkArith.wf_i64 h.2
  have w3 := WalkArith.wf_i64 (n := 0) ⟨by decide, by decide⟩
  have hu := Try.underlying42
  have hi := Try.underlying3
  have hb := Try.underlying4
  obtain ⟨m, hm⟩ := fk_types
  unfold keyOf
  simp only [hu]
  rw [if_pos (by simp [fk_key, Value.formed, hu, fk_cells]), hm]
  unfold Program.keyLits
  simp only [hu, Value.cells]
  rw [if_pos ⟨by rw [fk_cells]; rfl, by simp⟩]
  simp [fki_cells, fkb_cells, Program.keyLits, hi, hb, w1, w2, w3, kf]
theorem kf_inj {p q : Int × Int × Bool} (hp : Ky64 p) (hq : Ky64 q) (h : kf p = kf q) : p = q := by
  have h1 := key_fp p hp
  have h2 := key_fp q hq
  rw [← h] at h2
  have := fk_law.inj h1 h2
  simp at this
  exact Prod.ext this.1 (Prod.ext this.2.1 this.2.2)
/-- Block b is a map from these to true. -/
def MapP (w : World) (b : Nat) (ls : List (Int × Int × Bool)) : Prop := (∀ p ∈ ls, Ky64 p) ∧ ∃ D : Dm, w.ownsMap Try.prog 42 (plainElem Try.prog 4) b ls.length D ∧ IsMap D ∧ (∀ p, Ky64 p → has D (.string (kf p)) = decide (p ∈ ls)) ∧ ∀ p z, p ∈ ls → D.atKey (.string (kf p)) z = .lit (.bool true)
theorem MapP.made (w : World) : MapP (w.alloc (.map #[] 0)) w.heap.size [] := ⟨fun p hp => absurd hp (by simp), .map [], World.ownsMap_made _ _ _ _, isMap_empty, fun x _ => by simp [has_eq], fun x z h => by simp at h⟩
theorem MapP.lt {w : World} {b : Nat} {ls : List (Int × Int × Bool)} (h : MapP w b ls) : b < w.heap.size := by
  obtain ⟨_, D, h1, _⟩ := h
  exact h1.lt
theorem MapP.below {w w' : World} {b : Nat} {ls : List (Int × Int × Bool)} (h : MapP w b ls) (hb : Below w.heap.size w w') : MapP w' b ls := by
  obtain ⟨h0, D, h1, h2⟩ := h
  exact ⟨h0, D, h1.kept (below_no hb) (by simp), h2⟩
theorem MapP.look {w : World} {b : Nat} {ls : List (Int × Int × Bool)} (h : MapP w b ls) (p : Int × Int × Bool) (hp : Ky64 p) :
    (Instr.lookup 49 (.map (some b)) (kyV p) false).run Try.prog w = .ok (.bool (decide (p ∈ ls))) w := by
  obtain ⟨h0, D, h1, h2, h3, h4⟩ := h
  obtain ⟨v, ps, hrun, hv⟩ := h1.lookup fk_law Try.underlying49 (zbool_fp w) (plainElem_bool Try.underlying4 false) (key_fp p hp)
  obtain ⟨c, rfl, hc⟩ := pbool_inv hv
  have hc := congrArg Prod.fst hc
  rw [hrun]
  have : c = decide (p ∈ ls) := by
    by_cases hm : p ∈ ls
    · rw [h4 _ _ hm] at hc
      simp at hc
      simp [hm, ← hc]
    · rw [atKey_of_not_has (by rw [h3 p hp]; exact decide_eq_false hm)] at hc
      simp at hc
      simp [hm, ← hc]
  rw [this]
/-- A store. -/
theorem MapP.update {w : World} {b : Nat} {ls : List (Int × Int × Bool)} (h : MapP w b ls) (p : Int × Int × Bool) (hp : Ky64 p) (hl : ls.length < 1099511627776) :
    ∃ w', (Instr.mapUpdate 49 (.map (some b)) (kyV p) (.bool true)).run Try.prog w = .ok () w' ∧ MapP w' b (ls ++ [p]) ∧ w.grownBy w' (some b) := by
  obtain ⟨h0, D, h1, h2, h3, h4⟩ := h
  obtain ⟨w', hrun, g1, g2⟩ := h1.update fk_law Try.underlying49 (by unfold maxLen; omega) (key_fp p hp) (plainElem_bool Try.underlying4 true)
  refine ⟨w', hrun, ⟨fun q hq => ?_, _, by rw [List.length_append]; exact g1, h2.put _ _, fun q hq => ?_, fun q z hi => ?_⟩, g2⟩
  · rcases List.mem_append.1 hq with hq | hq
    · exact h0 q hq
    · rw [List.mem_singleton.1 hq]; exact hp
  · by_cases hx : q = p
    · subst hx
      rw [has_put_same h2 (by simp [WideAt.IsKeyLit])]
      simp
    · rw [has_put_other (fun e => hx (kf_inj hq hp (by simpa using e))), h3 q hq]
      simp [hx]
  · by_cases hx : q = p
    · subst hx
      rw [atKey_put_same h2 (by simp [WideAt.IsKeyLit])]
    · have hq : q ∈ ls := by simpa [hx] using hi
      rw [atKey_put_other (fun e => hx (kf_inj (h0 q hq) hp (by simpa using e)))]
      exact h4 q z hq
end Go.Proofs.Ytibakhobgfiklaa
