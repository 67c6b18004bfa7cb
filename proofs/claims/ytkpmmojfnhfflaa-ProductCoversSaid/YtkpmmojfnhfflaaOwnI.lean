/-
  Slices of ints that a call makes and lets grow, or that it is handed: what an append leaves, a part of a slice, an element read. Condition: the lengths are below the bounds that each theorem names.
-/
import Derived.Test.YtkpmmojfnhfflaaLst
namespace Go.Proofs.Ytkpmmojfnhfflaa
open Go.RowKit

/-- Ints as cells. -/
abbrev ints (l : List Int) : List Value := l.map fun x => Value.int .i64 x
theorem info_int : (Try.prog.info? 3).map (fun i => (i.zero, i.size, i.bytes)) = some (some (.int .i64 0), 1, 8) := by kernel_rfl
theorem size_int : ∀ w, (Go.sizeOf 3).run Try.prog w = .ok 1 w := fun w => by
  obtain ⟨i, hi, _, hsz, _⟩ := info_parts info_int
  simp [sizeOf, typeInfo, hi, hsz]
/-- The value is a slice of ints of the call's own, with these ints. -/
def OwnI (w : World) (base : Nat) (v : Value) (l : List Int) : Prop := w.ownsRow base 3 1 v l.length (ints l)
/-- The value is a slice that reads as these ints. -/
def LstI (w : World) (v : Value) (ls : List Int) : Prop := ∃ A c, v = .slice A ls.length c ∧ ls.length ≤ c ∧ (A = none → c = 0) ∧ (0 < ls.length → ∃ b o, A = some ⟨b, o, none⟩ ∧ b < w.heap.size ∧ ∀ (j : Nat) x, (ints ls)[j]? = some x → w.cell? ⟨b, o + j, none⟩ = some x)
theorem OwnI.nil (w : World) (base : Nat) : OwnI w base (.slice none 0 0) [] := World.ownsRow_nil _ _ _ _
theorem ints_one (l : List Int) : ∀ u ∈ ints l, u.oneCell' = true := by
  intro u hu
  obtain ⟨b, _, rfl⟩ := List.mem_map.1 hu
  rfl
theorem ints_at (l : List Int) (k : Nat) (x : Int) (h : l[k]? = some x) : (ints l)[k]? = some (.int .i64 x) := by
  unfold ints
  rw [List.getElem?_map, h]
  rfl
theorem OwnI.lst {w : World} {base : Nat} {v : Value} {l : List Int} (h : OwnI w base v l) : LstI w v l := by
  obtain ⟨A, c, hv, hc, hx⟩ := own_shape h
  refine ⟨A, c, hv, hc, ?_, fun h0 => ?_⟩
  · rintro rfl
    rcases h.2 with ⟨h0, _⟩ | ⟨g, cap, cur, h0, _⟩
    · rw [hv] at h0; simp at h0; exact h0.2
    · rw [hv] at h0; simp at h0
  · obtain ⟨g, hA, _, hg, hcell⟩ := hx h0
    exact ⟨g, 0, hA, hg, hcell⟩
theorem OwnI.len {w : World} {base : Nat} {v : Value} {l : List Int} (h : OwnI w base v l) : l.length ≤ 9223372036854775807 := by
  rcases h.2 with ⟨_, h0⟩ | ⟨g, cap, cur, _, _, _, hn, hm, _⟩
  · omega
  · unfold maxLen at hm
    omega
theorem LstI.nil (w : World) : LstI w (.slice none 0 0) [] := ⟨none, 0, rfl, Nat.le_refl _, fun _ => rfl, fun h => absurd h (Nat.lt_irrefl _)⟩
theorem LstI.below {w w' : World} {v : Value} {l : List Int} (h : LstI w v l) (hb : Below w.heap.size w w') : LstI w' v l := by
  obtain ⟨A, c, hv, hc, hn, hx⟩ := h
  refine ⟨A, c, hv, hc, hn, fun h0 => ?_⟩
  obtain ⟨b, o, hA, hbl, hcell⟩ := hx h0
  exact ⟨b, o, hA, Nat.lt_of_lt_of_le hbl hb.size, fun j x hj => (hb.cell (p := ⟨b, o + j, none⟩) hbl).trans (hcell j x hj)⟩
theorem OwnI.below {w w' : World} {base : Nat} {v : Value} {l : List Int} (h : OwnI w base v l) (hb : Below w.heap.size w w') : OwnI w' base v l := own_below h hb

/-- A row of literals. -/
theorem lsti_lit (w : World) (cs : Array Value) (ls : List Int) (h : cs.toList = ints ls) (n : Nat) (hn : ls.length = n) : LstI (w.alloc (.cells cs 3 (0, 0))) (.slice (some ⟨w.heap.size, 0, none⟩) n n) ls := by
  subst hn
  refine ⟨_, _, rfl, Nat.le_refl _, fun h => absurd h (by simp), fun _ => ⟨w.heap.size, 0, rfl, by simp, fun j x hj => ?_⟩⟩
  rw [Nat.zero_add, cell_of_row _ _ j _ _ _ (heap_alloc_new _ _), ← hj, ← h]
  simp
/-- Appending one int. -/
theorem app_int (w : World) {ops : Array Oper} {rest : List Oper} {o : Oper} {a : Act} {Q : Exit → Act → World → Prop} (hgd : o.guard = none) (s x : Operand)
    (ho : o.op = .call { callee := .builtin .append, args := #[s, x], argTypes := #[36, 36] }) (base : Nat) (v : Value) (l : List Int) (m : Int) (hs : a.eval s = v) (hown : OwnI w base v l)
    (k : Nat) (cells : Array Value) (hk : w.heap[k]? = some (.cells cells 3 (0, 0))) (hc : cells = #[.int .i64 m]) (hx : a.eval x = .slice (some ⟨k, 0, none⟩) 1 1) (hb : base ≤ w.heap.size)
    (hl : l.length + 1 ≤ 1099511627776) (h : ∀ v' w', OwnI w' base v' (l ++ [m]) → Below base w w' → wpList Try.prog ops Q rest (a.put o.dst v') w') : wpList Try.prog ops Q (o :: rest) a w := by
  obtain ⟨i, hi, hz, hsz, hby⟩ := info_parts info_int
  refine wpList_append_own w hgd s x 36 ho base 3 i _ 1 8 Try.underlying36 hi hz hsz hby rfl (by decide) v l.length (ints l) hs hown ⟨k, 0, none⟩ 1 1 (ints [m]) hx (by simp) ?_ (ints_one [m]) (by unfold maxLen; omega) (by omega) hb ?_
  · intro j u hu
    have hadd : (⟨k, 0, none⟩ : Addr).add j = ⟨k, j, none⟩ := by unfold Addr.add; split <;> simp_all
    rw [hadd, cell_of_row w k j cells _ _ hk, ← hu, hc]
    simp
  · intro v' w' h1 h2 _
    refine h v' w' ?_ (own_grown hown h2 hb)
    unfold OwnI ints
    rw [List.length_append, List.map_append]
    exact h1
/-- Appending a slice of ints, a nil one too. -/
theorem app_ints (w : World) {ops : Array Oper} {rest : List Oper} {o : Oper} {a : Act} {Q : Exit → Act → World → Prop} (hgd : o.guard = none) (s x : Operand)
    (ho : o.op = .call { callee := .builtin .append, args := #[s, x], argTypes := #[36, 36] }) (base : Nat) (v : Value) (l m : List Int) (hs : a.eval s = v) (hown : OwnI w base v l)
    (y : Value) (hx : a.eval x = y) (hy : LstI w y m) (hb : base ≤ w.heap.size)
    (hl : l.length + m.length ≤ 1099511627776) (h : ∀ v' w', OwnI w' base v' (l ++ m) → Below base w w' → wpList Try.prog ops Q rest (a.put o.dst v') w') : wpList Try.prog ops Q (o :: rest) a w := by
  obtain ⟨i, hi, hz, hsz, hby⟩ := info_parts info_int
  obtain ⟨A, c, rfl, hc, hn, hcell⟩ := hy
  cases A with
  | none =>
    obtain rfl := hn rfl
    have h0 : m = [] := List.length_eq_zero_iff.1 (by omega)
    subst h0
    refine wpList_plain hgd fun K hK => ?_
    have hrun := run_append_owned_none (P := Try.prog) w base 36 o.type 3 i 1 Try.underlying36 hi v l.length (ints l) hown
    unfold Oper.wp
    simp only [List.length_nil] at hx
    simp [execOp, ho, resolve, invoke, builtin, hs, hx, hrun, Result.andThen]
    exact hK _ _ (h v w (by rw [List.append_nil]; exact hown) (Below.refl _ _))
  | some ad =>
    have hcells : ∀ (j : Nat) u, (ints m)[j]? = some u → w.cell? (ad.add j) = some u := by
      intro j u hu
      have hj := (List.getElem?_eq_some_iff.1 hu).1
      rw [List.length_map] at hj
      obtain ⟨b, f, hA, _, hcc⟩ := hcell (by omega)
      obtain rfl := Option.some.inj hA
      have hadd : (⟨b, f, none⟩ : Addr).add j = ⟨b, f + j, none⟩ := by unfold Addr.add; split <;> simp_all
      rw [hadd]
      exact hcc j u hu
    refine wpList_append_own w hgd s x 36 ho base 3 i _ 1 8 Try.underlying36 hi hz hsz hby rfl (by decide) v l.length (ints l) hs hown ad m.length c (ints m) hx (by simp) hcells (ints_one m) (by unfold maxLen; omega) (by omega) hb ?_
    intro v' w' h1 h2 _
    refine h v' w' ?_ (own_grown hown h2 hb)
    unfold OwnI ints
    rw [List.length_append, List.map_append]
    exact h1

/-! ### Parts of a slice -/
theorem elem_ints : Try.prog.elem 36 = 3 := by simp [Program.elem, Try.underlying36]
theorem under_ints : Try.prog.underlying 36 = some (.slice (Try.prog.elem 36)) := by rw [elem_ints]; exact Try.underlying36
theorem LstI.part {w : World} {A : Option Addr} {l : List Int} {c : Nat} (hc : l.length ≤ c) (hn : A = none → c = 0) (hx : 0 < l.length → ∃ b o, A = some ⟨b, o, none⟩ ∧ b < w.heap.size ∧ ∀ (j : Nat) x, (ints l)[j]? = some x → w.cell? ⟨b, o + j, none⟩ = some x)
    (i j : Nat) (hi : i ≤ j) (hj : j ≤ l.length) : LstI w (sliced A i j c 1) ((l.drop i).take (j - i)) := by
  have hlen : ((l.drop i).take (j - i)).length = j - i := by rw [List.length_take, List.length_drop]; omega
  refine ⟨if c = i then A else A.map (·.add (i * 1)), c - i, ?_, by omega, ?_, fun h0 => ?_⟩
  · unfold sliced
    rw [hlen]
  · intro h
    split at h
    · have := hn h; omega
    · cases A with
      | none => have := hn rfl; omega
      | some a => simp at h
  · rw [hlen] at h0
    obtain ⟨b, o, rfl, hb, hcell⟩ := hx (by omega)
    have hne : ¬ c = i := by omega
    refine ⟨b, o + i, ?_, hb, fun k x hk => ?_⟩
    · rw [if_neg hne]
      show some ((⟨b, o, none⟩ : Addr).add (i * 1)) = _
      rw [Nat.mul_one, Addr.add_lit]
    · rw [Nat.add_assoc]
      refine hcell (i + k) x ?_
      have hk2 := (List.getElem?_eq_some_iff.1 hk).1
      rw [List.length_map, hlen] at hk2
      rw [← hk]
      unfold ints
      rw [List.getElem?_map, List.getElem?_map, List.getElem?_take, if_pos hk2, List.getElem?_drop]
/-- l[:j]. -/
theorem ints_to {w : World} {v : Value} {l : List Int} (h : LstI w v l) (j : Nat) (hj : j ≤ l.length) (e : Int) (he : e = j) : ∃ x, (∀ W, (Instr.slice 36 v none (some (.int .i64 e)) none).run Try.prog W = .ok x W) ∧ LstI w x (l.take j) := by
  subst he
  obtain ⟨A, c, rfl, hc, hn, hx⟩ := h
  refine ⟨sliced A 0 j c 1, fun W => ?_, ?_⟩
  · rw [run_slice_h W 36 A l.length c under_ints .i64 j (by omega) (by omega), elem_ints, size_int]
    rfl
  · have := LstI.part hc hn hx 0 j (Nat.zero_le _) hj
    rw [List.drop_zero, Nat.sub_zero] at this
    exact this
/-- l[i:]. -/
theorem ints_from {w : World} {v : Value} {l : List Int} (h : LstI w v l) (i : Nat) (hi : i ≤ l.length) (e : Int) (he : e = i) : ∃ x, (∀ W, (Instr.slice 36 v (some (.int .i64 e)) none none).run Try.prog W = .ok x W) ∧ LstI w x (l.drop i) := by
  subst he
  obtain ⟨A, c, rfl, hc, hn, hx⟩ := h
  refine ⟨sliced A i l.length c 1, fun W => ?_, ?_⟩
  · rw [run_slice_l W 36 A l.length c under_ints .i64 i (by omega) (by omega), elem_ints, size_int]
    rfl
  · have := LstI.part hc hn hx i l.length hi (Nat.le_refl _)
    rw [List.take_of_length_le (by rw [List.length_drop]; exact Nat.le_refl _)] at this
    exact this
/-- l[i:j]. -/
theorem ints_mid {w : World} {v : Value} {l : List Int} (h : LstI w v l) (i j : Nat) (hi : i ≤ j) (hj : j ≤ l.length) (e f : Int) (he : e = i) (hf : f = j) : ∃ x, (∀ W, (Instr.slice 36 v (some (.int .i64 e)) (some (.int .i64 f)) none).run Try.prog W = .ok x W) ∧ LstI w x ((l.drop i).take (j - i)) := by
  subst he hf
  obtain ⟨A, c, rfl, hc, hn, hx⟩ := h
  refine ⟨sliced A i j c 1, fun W => ?_, LstI.part hc hn hx i j hi hj⟩
  rw [run_slice_lh W 36 A l.length c under_ints .i64 .i64 i j (by omega) (by omega) (by omega), elem_ints, size_int]
  rfl
end Go.Proofs.Ytkpmmojfnhfflaa
