/-
  Slices of bytes and of strings that a call makes and lets grow: what an append leaves, a string made of bytes, an element read. Condition: the lengths are below the bounds that each theorem names.
-/
import Derived.Test.YtkpmmojfnhfflaaBase
import Derived.Lib.AppendStr
import Derived.OwnWalk
import Derived.Laws.OwnMore
import Derived.Laws.IdiomStrings
import Derived.Deep.RegionLaw
namespace Go.Proofs.Ytkpmmojfnhfflaa
open Go.RowKit

/-- Bytes as cells. -/
abbrev bts (l : List UInt8) : List Value := l.map fun b => Value.int .u8 b.toNat
/-- Strings as cells. -/
abbrev sts (l : List (List UInt8)) : List Value := l.map fun s => Value.string (str s)
theorem info_u8 : (Try.prog.info? 5).map (fun i => (i.zero, i.size, i.bytes)) = some (some (.int .u8 0), 1, 1) := by kernel_rfl
theorem info_str : (Try.prog.info? 9).map (fun i => (i.zero, i.size, i.bytes)) = some (some (.string ByteArray.empty), 1, 16) := by kernel_rfl
/-- The value is a slice of bytes of the call's own, with these bytes. -/
def OwnB (w : World) (base : Nat) (v : Value) (l : List UInt8) : Prop := w.ownsRow base 5 1 v l.length (bts l)
/-- The value is a slice of strings of the call's own, with these strings. -/
def OwnS (w : World) (base : Nat) (v : Value) (l : List (List UInt8)) : Prop := w.ownsRow base 9 1 v l.length (sts l)
theorem OwnB.nil (w : World) (base : Nat) : OwnB w base (.slice none 0 0) [] := World.ownsRow_nil _ _ _ _
theorem OwnS.nil (w : World) (base : Nat) : OwnS w base (.slice none 0 0) [] := World.ownsRow_nil _ _ _ _
theorem bts_one (l : List UInt8) : ∀ u ∈ bts l, u.oneCell' = true := by
  intro u hu
  obtain ⟨b, _, rfl⟩ := List.mem_map.1 hu
  rfl
theorem sts_one (l : List (List UInt8)) : ∀ u ∈ sts l, u.oneCell' = true := by
  intro u hu
  obtain ⟨b, _, rfl⟩ := List.mem_map.1 hu
  rfl
theorem own_shape {w : World} {base : Nat} {e : TypeId} {v : Value} {n : Nat} {xs : List Value} (h : w.ownsRow base e 1 v n xs) : ∃ A c, v = .slice A n c ∧ n ≤ c ∧ (0 < n → ∃ g, A = some ⟨g, 0, none⟩ ∧ base ≤ g ∧ g < w.heap.size ∧ ∀ j u, xs[j]? = some u → w.cell? ⟨g, 0 + j, none⟩ = some u) := by
  have hl := h.1
  rcases h.2 with ⟨rfl, rfl⟩ | ⟨g, cap, cur, rfl, hb, hg, hn, _, _, ht⟩
  · exact ⟨none, 0, rfl, Nat.le_refl _, fun h => absurd h (Nat.lt_irrefl _)⟩
  · refine ⟨some ⟨g, 0, none⟩, cap, rfl, hn, fun _ => ⟨g, rfl, hb, ?_, ?_⟩⟩
    · rcases Nat.lt_or_ge g w.heap.size with h | h
      · exact h
      · rw [Array.getElem?_eq_none h] at hg; cases hg
    · intro j u hu
      rw [Nat.zero_add, cell_of_row w g j cur e (0, 0) hg]
      have hj := (List.getElem?_eq_some_iff.1 hu).1
      rw [← ht, List.getElem?_take] at hu
      split at hu
      · rw [← hu]; simp
      · cases hu
theorem own_shape' {w : World} {base : Nat} {e : TypeId} {v : Value} {n : Nat} {xs : List Value} (h : w.ownsRow base e 1 v n xs) : ∃ A c, v = .slice A n c := by
  obtain ⟨A, c, hv, _⟩ := own_shape h
  exact ⟨A, c, hv⟩
/-- What is owned stays owned where nothing below has changed but new blocks were made. -/
theorem own_below {w w' : World} {base : Nat} {e : TypeId} {v : Value} {n : Nat} {xs : List Value} (h : w.ownsRow base e 1 v n xs) (hb : Below w.heap.size w w') : w'.ownsRow base e 1 v n xs := by
  refine ⟨h.1, ?_⟩
  rcases h.2 with h0 | ⟨g, cap, cur, hv, hbg, hg, hr⟩
  · exact Or.inl h0
  · have hlt : g < w.heap.size := by
      rcases Nat.lt_or_ge g w.heap.size with h | h
      · exact h
      · rw [Array.getElem?_eq_none h] at hg; cases hg
    exact Or.inr ⟨g, cap, cur, hv, hbg, (hb.block g hlt).trans hg, hr⟩
theorem own_grown {w w' : World} {base : Nat} {e : TypeId} {v : Value} {n : Nat} {xs : List Value} (h : w.ownsRow base e 1 v n xs) (hg : w.grownBy w' v.ownBlock) (hb : base ≤ w.heap.size) : Below base w w' :=
  (Below.refl _ _).grown hg hb fun k hk => (h.lt k hk).1

/-- What is owned stays owned where its own blocks stay. -/
theorem own_keep {w w' : World} {base : Nat} {e : TypeId} {v : Value} {n : Nat} {xs : List Value} (h : w.ownsRow base e 1 v n xs) (hk : ∀ k, base ≤ k → k < w.heap.size → w'.heap[k]? = w.heap[k]?) : w'.ownsRow base e 1 v n xs := by
  refine ⟨h.1, ?_⟩
  rcases h.2 with h0 | ⟨g, cap, cur, hv, hbg, hg, hr⟩
  · exact Or.inl h0
  · have hlt : g < w.heap.size := by
      rcases Nat.lt_or_ge g w.heap.size with h | h
      · exact h
      · rw [Array.getElem?_eq_none h] at hg; cases hg
    exact Or.inr ⟨g, cap, cur, hv, hbg, (hk g hbg hlt).trans hg, hr⟩
theorem own_down {w : World} {base base' : Nat} {e : TypeId} {v : Value} {n : Nat} {xs : List Value} (h : w.ownsRow base e 1 v n xs) (hb : base' ≤ base) : w.ownsRow base' e 1 v n xs := by
  refine ⟨h.1, ?_⟩
  rcases h.2 with h0 | ⟨g, cap, cur, hv, hbg, hr⟩
  · exact Or.inl h0
  · exact Or.inr ⟨g, cap, cur, hv, Nat.le_trans hb hbg, hr⟩

/-- A byte of a string. -/
theorem at_run (s : ByteArray) (i : Nat) (c : UInt8) (h : s.data.toList[i]? = some c) (e : Int) (he : e = i) (W : World) : (Instr.index 9 (.string s) (.int .i64 e)).run Try.prog W = .ok (.int .u8 c.toNat) W := by
  subst he
  have hi : i < s.size := by have := (List.getElem?_eq_some_iff.1 h).1; simpa using this
  rw [run_at s i hi W]
  have := list_at s i hi
  rw [h] at this
  rw [Option.some.inj this]
theorem get_at' (s : ByteArray) (i : Nat) (h : i < s.size) : ∃ c, s.data.toList[i]? = some c := ⟨s[i], list_at s i h⟩
theorem sz_list (s : ByteArray) : s.data.toList.length = s.size := by simp
theorem str_list (s : ByteArray) : str s.data.toList = s := by cases s; rfl
theorem nil_iff (s : ByteArray) : s.toList.isEmpty = decide (s.size = 0) := by
  rw [Lib.toList_data]
  cases h : s.data.toList with
  | nil => have := sz_list s; rw [h] at this; simp [← this]
  | cons c r => have := sz_list s; rw [h] at this; simp [← this]
theorem str_same (a b : List UInt8) : ((str a).toList == (str b).toList) = decide (a = b) := by
  rw [Lib.toList_data, Lib.toList_data]
  show (a == b) = _
  rw [Bool.eq_iff_iff]
  simp
theorem bytes_ne {a b : ByteArray} (h : a ≠ b) : (a.toList == b.toList) = false := by
  rw [beq_eq_false_iff_ne, Lib.toList_data, Lib.toList_data]
  intro e
  apply h
  rw [← str_list a, ← str_list b, e]
theorem bytes_eq {a b : ByteArray} (h : a = b) : (a.toList == b.toList) = true := by rw [h]; simp
/-- A call that leaves the world alone, in a region that draws. -/
theorem quiet_of {P : Program} {f : FuncId} {args : Array Value} {x : Value} (h : ∀ w : World, Calls P f args w fun e w' => e = .returned x ∧ w = w') (w : World) (n : Nat) : Calls P f args (w.drewN n) fun e w'' => e = .returned x ∧ ∃ m, w'' = w.drewN m :=
  Calls.quiet_of_same ((h _).mono fun _ _ ⟨a, b⟩ => ⟨a, b.symm⟩)
/-- Parts of a string, each under a name of its own. -/
theorem sl_from (s t : ByteArray) (j : Nat) (hj : j ≤ s.size) (ht : s.data.toList.drop j = t.data.toList) (e : Int) (he : e = j) (W : World) : (Instr.slice 9 (.string s) (some (.int .i64 e)) none none).run Try.prog W = .ok (.string t) W := by
  have h := sll_run s.data.toList j (by rw [sz_list]; exact hj) _ ht e he W
  rw [str_list, str_list] at h
  exact h
theorem sl_to (s t : ByteArray) (j : Nat) (hj : j ≤ s.size) (ht : s.data.toList.take j = t.data.toList) (e : Int) (he : e = j) (W : World) : (Instr.slice 9 (.string s) none (some (.int .i64 e)) none).run Try.prog W = .ok (.string t) W := by
  have h := slh_run s.data.toList j (by rw [sz_list]; exact hj) _ ht e he W
  rw [str_list, str_list] at h
  exact h
theorem sl_mid (s t : ByteArray) (i j : Nat) (hi : i ≤ j) (hj : j ≤ s.size) (ht : (s.data.toList.drop i).take (j - i) = t.data.toList) (e f : Int) (he : e = i) (hf : f = j) (W : World) : (Instr.slice 9 (.string s) (some (.int .i64 e)) (some (.int .i64 f)) none).run Try.prog W = .ok (.string t) W := by
  have h := slb_run s.data.toList i j hi (by rw [sz_list]; exact hj) _ ht e f he hf W
  rw [str_list, str_list] at h
  exact h
theorem as_str (l : List UInt8) : ∃ s : ByteArray, s.data.toList = l ∧ s.size = l.length ∧ str l = s := ⟨str l, rfl, size_str l, rfl⟩
/-- A string's length, off its value. -/
def szOf : Value → Nat | .string s => s.size | _ => 0
end Go.Proofs.Ytkpmmojfnhfflaa
