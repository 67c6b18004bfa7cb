/-
  Slices of bytes that came in or that the call itself made: they read as a list of bytes, and go on doing so where only new blocks are made; parts, appends, the string made of them, one among the arguments of a row. Condition: the lengths are below the bounds that each theorem names.
-/
import Derived.Test.YteojfgpinmpocaaOwn
import Derived.ChangeSlices
import Derived.ProofKit
import Derived.OpenShut
import Derived.Deep.DeepHandedRow
import Derived.Laws.Rows
import Derived.Carry
namespace Go.Proofs.Yteojfgpinmpocaa
open Go.RowKit

theorem size_u8 : ∀ w, (Go.sizeOf 5).run Try.prog w = .ok 1 w := fun w => by
  obtain ⟨i, hi, _, hsz, _⟩ := info_parts info_u8
  simp [sizeOf, typeInfo, hi, hsz]
/-- The value is a slice that reads as these bytes. -/
def LstB (w : World) (v : Value) (ls : List UInt8) : Prop := ∃ A c, v = .slice A ls.length c ∧ ls.length ≤ c ∧ (A = none → c = 0) ∧ (0 < ls.length → ∃ b o, A = some ⟨b, o, none⟩ ∧ b < w.heap.size ∧ ∀ (j : Nat) x, (bts ls)[j]? = some x → w.cell? ⟨b, o + j, none⟩ = some x)
theorem bts_at (l : List UInt8) (k : Nat) (x : UInt8) (h : l[k]? = some x) : (bts l)[k]? = some (.int .u8 x.toNat) := by
  unfold bts
  rw [List.getElem?_map, h]
  rfl
theorem OwnB.lst {w : World} {base : Nat} {v : Value} {l : List UInt8} (h : OwnB w base v l) : LstB w v l := by
  obtain ⟨A, c, hv, hc, hx⟩ := own_shape h
  refine ⟨A, c, hv, hc, ?_, fun h0 => ?_⟩
  · rintro rfl
    rcases h.2 with ⟨h0, _⟩ | ⟨g, cap, cur, h0, _⟩
    · rw [hv] at h0; simp at h0; exact h0.2
    · rw [hv] at h0; simp at h0
  · obtain ⟨g, hA, _, hg, hcell⟩ := hx h0
    exact ⟨g, 0, hA, hg, hcell⟩
theorem OwnB.len {w : World} {base : Nat} {v : Value} {l : List UInt8} (h : OwnB w base v l) : l.length ≤ 9223372036854775807 := by
  rcases h.2 with ⟨_, h0⟩ | ⟨g, cap, cur, _, _, _, hn, hm, _⟩
  · omega
  · unfold maxLen at hm
    omega
theorem LstB.nil (w : World) : LstB w (.slice none 0 0) [] := ⟨none, 0, rfl, Nat.le_refl _, fun _ => rfl, fun h => absurd h (Nat.lt_irrefl _)⟩
theorem LstB.below {w w' : World} {v : Value} {l : List UInt8} (h : LstB w v l) (hb : Below w.heap.size w w') : LstB w' v l := by
  obtain ⟨A, c, hv, hc, hn, hx⟩ := h
  refine ⟨A, c, hv, hc, hn, fun h0 => ?_⟩
  obtain ⟨b, o, hA, hbl, hcell⟩ := hx h0
  exact ⟨b, o, hA, Nat.lt_of_lt_of_le hbl hb.size, fun j x hj => (hb.cell (p := ⟨b, o + j, none⟩) hbl).trans (hcell j x hj)⟩
theorem OwnB.below {w w' : World} {base : Nat} {v : Value} {l : List UInt8} (h : OwnB w base v l) (hb : Below w.heap.size w w') : OwnB w' base v l := own_below h hb
theorem LstB.drew {w : World} {v : Value} {l : List UInt8} (h : LstB w v l) : LstB w.drew v l := h
/-- A row of literals. -/
theorem lstb_lit (w : World) (fr : Nat × Nat) (cs : Array Value) (ls : List UInt8) (h : cs.toList = bts ls) (n : Nat) (hn : ls.length = n) : LstB (w.alloc (.cells cs 5 fr)) (.slice (some ⟨w.heap.size, 0, none⟩) n n) ls := by
  subst hn
  refine ⟨_, _, rfl, Nat.le_refl _, fun h => absurd h (by simp), fun _ => ⟨w.heap.size, 0, rfl, by simp, fun j x hj => ?_⟩⟩
  rw [Nat.zero_add, cell_of_row _ _ j _ _ _ (heap_alloc_new _ _), ← hj, ← h]
  simp
/-- Appending a slice of bytes, a nil one too. -/
theorem app_lstb (w : World) {ops : Array Oper} {rest : List Oper} {o : Oper} {a : Act} {Q : Exit → Act → World → Prop} (hgd : o.guard = none) (s x : Operand)
    (ho : o.op = .call { callee := .builtin .append, args := #[s, x], argTypes := #[23, 23] }) (base : Nat) (v : Value) (l m : List UInt8) (hs : a.eval s = v) (hown : OwnB w base v l)
    (y : Value) (hx : a.eval x = y) (hy : LstB w y m) (hb : base ≤ w.heap.size)
    (hl : l.length + m.length ≤ 140737488355328) (h : ∀ v' w', OwnB w' base v' (l ++ m) → Below base w w' → wpList Try.prog ops Q rest (a.put o.dst v') w') : wpList Try.prog ops Q (o :: rest) a w := by
  obtain ⟨i, hi, hz, hsz, hby⟩ := info_parts info_u8
  obtain ⟨A, c, rfl, hc, hn, hcell⟩ := hy
  cases A with
  | none =>
    obtain rfl := hn rfl
    have h0 : m = [] := List.length_eq_zero_iff.1 (by omega)
    subst h0
    refine wpList_plain hgd fun K hK => ?_
    have hrun := run_append_owned_none (P := Try.prog) w base 23 o.type 5 i 1 Try.underlying23 hi v l.length (bts l) hown
    unfold Oper.wp
    simp only [List.length_nil] at hx
    simp [execOp, ho, resolve, invoke, builtin, hs, hx, hrun, Result.andThen]
    exact hK _ _ (h v w (by rw [List.append_nil]; exact hown) (Below.refl _ _))
  | some ad =>
    have hcells : ∀ (j : Nat) u, (bts m)[j]? = some u → w.cell? (ad.add j) = some u := by
      intro j u hu
      have hj := (List.getElem?_eq_some_iff.1 hu).1
      rw [List.length_map] at hj
      obtain ⟨b, f, hA, _, hcc⟩ := hcell (by omega)
      obtain rfl := Option.some.inj hA
      have hadd : (⟨b, f, none⟩ : Addr).add j = ⟨b, f + j, none⟩ := by unfold Addr.add; split <;> simp_all
      rw [hadd]
      exact hcc j u hu
    refine wpList_append_own w hgd s x 23 ho base 5 i _ 1 1 Try.underlying23 hi hz hsz hby rfl (by decide) v l.length (bts l) hs hown ad m.length c (bts m) hx (by simp) hcells (bts_one m) (by unfold maxLen; omega) (by omega) hb ?_
    intro v' w' h1 h2 _
    refine h v' w' ?_ (own_grown hown h2 hb)
    unfold OwnB bts
    rw [List.length_append, List.map_append]
    exact h1
/-- A string made of the bytes. -/
theorem LstB.conv {w : World} {v : Value} {l : List UInt8} (h : LstB w v l) : (convert 23 9 v).run Try.prog w = .ok (.string (str l)) w := by
  obtain ⟨A, c, rfl, _, hn, hc⟩ := h
  rcases Nat.eq_zero_or_pos l.length with h0 | h0
  · have : l = [] := List.length_eq_zero_iff.1 h0
    subst this
    cases A with
    | none => exact run_convert_bytes_nil w 23 5 Try.underlying23 Try.underlying5 0 c 9 Try.underlying9
    | some a => exact run_convert_bytes_back w 23 9 5 a c [] Try.underlying23 Try.underlying5 Try.underlying9 (fun j hj => absurd hj (Nat.not_lt_zero _))
  · obtain ⟨g, f, rfl, _, hcell⟩ := hc h0
    refine run_convert_bytes_back w 23 9 5 ⟨g, f, none⟩ c l Try.underlying23 Try.underlying5 Try.underlying9 (fun j hj => ?_)
    have hadd : (⟨g, f, none⟩ : Addr).add j = ⟨g, f + j, none⟩ := by unfold Addr.add; split <;> simp_all
    rw [hadd]
    exact hcell j _ (by simp [hj])

/-! ### Parts of a slice -/
theorem elem_bts : Try.prog.elem 23 = 5 := by simp [Program.elem, Try.underlying23]
theorem under_bts : Try.prog.underlying 23 = some (.slice (Try.prog.elem 23)) := by rw [elem_bts]; exact Try.underlying23
theorem LstB.part {w : World} {A : Option Addr} {l : List UInt8} {c : Nat} (hc : l.length ≤ c) (hn : A = none → c = 0) (hx : 0 < l.length → ∃ b o, A = some ⟨b, o, none⟩ ∧ b < w.heap.size ∧ ∀ (j : Nat) x, (bts l)[j]? = some x → w.cell? ⟨b, o + j, none⟩ = some x)
    (i j : Nat) (hi : i ≤ j) (hj : j ≤ l.length) : LstB w (sliced A i j c 1) ((l.drop i).take (j - i)) := by
  have hlen : ((l.drop i).take (j - i)).length = j - i := by rw [List.length_take, List.length_drop]; omega
  refine ⟨if c = i then A else A.map (·.add (i * 1)), c - i, ?_, by omega, ?_, fun h0 => ?_⟩
  · unfold sliced
    rw [hlen]
  · intro h
    split at h
    · have := hn h; omega
    · cases A with
      | none => have := hn rfl; omega
      | some a => simp at h
  · rw [hlen] at h0
    obtain ⟨b, o, rfl, hb, hcell⟩ := hx (by omega)
    have hne : ¬ c = i := by omega
    refine ⟨b, o + i, ?_, hb, fun k x hk => ?_⟩
    · rw [if_neg hne]
      show some ((⟨b, o, none⟩ : Addr).add (i * 1)) = _
      rw [Nat.mul_one, Addr.add_lit]
    · rw [Nat.add_assoc]
      refine hcell (i + k) x ?_
      have hk2 := (List.getElem?_eq_some_iff.1 hk).1
      rw [List.length_map, hlen] at hk2
      rw [← hk]
      unfold bts
      rw [List.getElem?_map, List.getElem?_map, List.getElem?_take, if_pos hk2, List.getElem?_drop]
/-- l[:j]. -/
theorem bts_to {w : World} {v : Value} {l : List UInt8} (h : LstB w v l) (j : Nat) (hj : j ≤ l.length) (e : Int) (he : e = j) : ∃ x, (∀ W, (Instr.slice 23 v none (some (.int .i64 e)) none).run Try.prog W = .ok x W) ∧ LstB w x (l.take j) := by
  subst he
  obtain ⟨A, c, rfl, hc, hn, hx⟩ := h
  refine ⟨sliced A 0 j c 1, fun W => ?_, ?_⟩
  · rw [run_slice_h W 23 A l.length c under_bts .i64 j (by omega) (by omega), elem_bts, size_u8]
    rfl
  · have := LstB.part hc hn hx 0 j (Nat.zero_le _) hj
    rw [List.drop_zero, Nat.sub_zero] at this
    exact this
/-- l[i:]. -/
theorem bts_from {w : World} {v : Value} {l : List UInt8} (h : LstB w v l) (i : Nat) (hi : i ≤ l.length) (e : Int) (he : e = i) : ∃ x, (∀ W, (Instr.slice 23 v (some (.int .i64 e)) none none).run Try.prog W = .ok x W) ∧ LstB w x (l.drop i) := by
  subst he
  obtain ⟨A, c, rfl, hc, hn, hx⟩ := h
  refine ⟨sliced A i l.length c 1, fun W => ?_, ?_⟩
  · rw [run_slice_l W 23 A l.length c under_bts .i64 i (by omega) (by omega), elem_bts, size_u8]
    rfl
  · have := LstB.part hc hn hx i l.length hi (Nat.le_refl _)
    rw [List.take_of_length_le (by rw [List.length_drop]; exact Nat.le_refl _)] at this
    exact this
/-- l[i:j]. -/
theorem bts_mid {w : World} {v : Value} {l : List UInt8} (h : LstB w v l) (i j : Nat) (hi : i ≤ j) (hj : j ≤ l.length) (e f : Int) (he : e = i) (hf : f = j) : ∃ x, (∀ W, (Instr.slice 23 v (some (.int .i64 e)) (some (.int .i64 f)) none).run Try.prog W = .ok x W) ∧ LstB w x ((l.drop i).take (j - i)) := by
  subst he hf
  obtain ⟨A, c, rfl, hc, hn, hx⟩ := h
  refine ⟨sliced A i j c 1, fun W => ?_, LstB.part hc hn hx i j hi hj⟩
  rw [run_slice_lh W 23 A l.length c under_bts .i64 .i64 i j (by omega) (by omega) (by omega), elem_bts, size_u8]
  rfl

/-! ### Among the arguments of a row -/
theorem u32_low {n : Int} (h : (Lit.int .u32 n).wf = true) : 0 ≤ n := by
  unfold Lit.wf at h
  rw [Bool.and_eq_true, decide_eq_true_eq, decide_eq_true_eq] at h
  exact h.1
theorem u32_lt {n : Nat} (h : (Lit.int .u32 (n : Int)).wf = true) : n < 4294967296 := by
  unfold Lit.wf at h
  rw [Bool.and_eq_true, decide_eq_true_eq, decide_eq_true_eq] at h
  have h2 : (n : Int) ≤ 4294967295 := h.2
  omega
theorem u8_range {n : Int} (h : (Lit.int .u8 n).wf = true) : 0 ≤ n ∧ n < 256 := by
  unfold Lit.wf at h
  rw [Bool.and_eq_true, decide_eq_true_eq, decide_eq_true_eq] at h
  have h2 : n ≤ 255 := h.2
  exact ⟨h.1, by omega⟩
open Go.ChangeShapes Go.WideShapes
theorem cells_u8 : Try.prog.cellsOf 5 = 1 := by kernel_rfl
theorem laid_outB' : laidOutB Try.prog = true := by kernel_rfl
theorem open_listB {H : Type} {enc : TypeId × Value → H} {W : World} {base : Nat} {v : Value} {d : DataW H} {ps : List MemPlace} (hval : Value.okWide Try.prog W .any base 23 v)
    (h : DataW.Trod enc Try.prog W 0 (fun _ => true) true 23 v d ps) : ∃ l : List UInt8, LstB W v l ∧ l.length ≤ 9223372036854775807 ∧ (∀ x ∈ ps, x.block < W.heap.size) := by
  have hlt := (trodAll_mk1 h).lt
  obtain ⟨a0, len, cap, rfl⟩ := okWide_slice Try.underlying23 hval
  obtain ⟨fuel, hf⟩ := h
  rcases Go.ChangeShapes.open_ints Try.underlying23 Try.underlying5 cells_u8 hf with ⟨hcs, _⟩ | ⟨a, len', cap', ss, hcs, _, hl, hm, hz, _, hcell, hwf⟩
  · simp [Value.cells] at hcs
    obtain ⟨rfl, rfl, rfl⟩ := hcs
    exact ⟨[], LstB.nil _, by simp, hlt⟩
  · simp [Value.cells] at hcs
    obtain ⟨rfl, rfl, rfl⟩ := hcs
    simp only [if_true] at hz
    have hll : ((ss.take len).map fun x => UInt8.ofNat x.toNat).length = len := by rw [List.length_map, List.length_take]; omega
    refine ⟨(ss.take len).map fun x => UInt8.ofNat x.toNat, ⟨_, _, by rw [hll], by omega, fun h => absurd h (by simp), fun h0 => ?_⟩, by unfold maxLen at hm; omega, hlt⟩
    rw [hll] at h0
    obtain ⟨b, off, spot⟩ := a
    have h00 := hcell 0 (by omega)
    have hspot : spot = none := by simpa [Addr.add] using World.cell?_spot h00
    subst hspot
    refine ⟨b, off, rfl, ?_, fun j x hj => ?_⟩
    · exact World.block_lt_of_cell? _ _ h00
    · have hjl : j < len := by
        have := (List.getElem?_eq_some_iff.1 hj).1
        rw [List.length_map, hll] at this
        exact this
      have hc := hcell j (by omega)
      have hadd : (⟨b, off, none⟩ : Addr).add j = ⟨b, off + j, none⟩ := by unfold Addr.add; split <;> simp_all
      rw [hadd] at hc
      have hjs : j < ss.length := by omega
      have hw := u8_range (hwf ss[j] (List.getElem_mem hjs))
      rw [hc, ← hj]
      unfold bts
      rw [List.map_map, List.getElem?_map, List.getElem?_take, if_pos hjl, List.getElem?_eq_getElem hjs]
      simp only [List.getD, List.getElem?_eq_getElem hjs, Option.getD_some, Option.map_some, Function.comp]
      have e : (((UInt8.ofNat ss[j].toNat).toNat : Nat) : Int) = ss[j] := by
        rw [UInt8.toNat_ofNat', Nat.mod_eq_of_lt (by omega)]
        omega
      rw [e]
end Go.Proofs.Yteojfgpinmpocaa
