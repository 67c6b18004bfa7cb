/-
  A slice of strings that came in or that the call itself made: it reads as a list of strings, and goes on doing so where only new blocks are made; one among the arguments of a row. Condition: none beyond each theorem's own hypotheses.
-/
import Derived.Test.YtlpemdhjbpekaaaDoorOwn
import Derived.Deep.OwnRows
import Derived.Laws.Rows
import Derived.SliceStrings
import Derived.OpenShut
import Derived.Carry
namespace Go.Proofs.YtlpemdhjbpekaaaDoor
open Go.RowKit

/-- The value is a slice that reads as these strings. -/
def Lst (w : World) (v : Value) (ls : List (List UInt8)) : Prop := ∃ A c, v = .slice A ls.length c ∧ (ls.length ≤ c ∧ (A = none → c = 0)) ∧ (0 < ls.length → ∃ b o, A = some ⟨b, o, none⟩ ∧ b < w.heap.size ∧ ∀ (j : Nat) x, (sts ls)[j]? = some x → w.cell? ⟨b, o + j, none⟩ = some x)
theorem OwnS.lst {w : World} {base : Nat} {v : Value} {l : List (List UInt8)} (h : OwnS w base v l) : Lst w v l := by
  obtain ⟨A, c, hv, hc, hx⟩ := own_shape h
  refine ⟨A, c, hv, ⟨hc, ?_⟩, fun h0 => ?_⟩
  · rintro rfl
    rcases h.2 with ⟨h0, _⟩ | ⟨g, cap, cur, h0, _⟩
    · rw [hv] at h0; simp at h0; exact h0.2
    · rw [hv] at h0; simp at h0
  obtain ⟨g, hA, _, hg, hcell⟩ := hx h0
  exact ⟨g, 0, hA, hg, hcell⟩
theorem Lst.below {w w' : World} {v : Value} {l : List (List UInt8)} (h : Lst w v l) (hb : Below w.heap.size w w') : Lst w' v l := by
  obtain ⟨A, c, hv, hc, hx⟩ := h
  refine ⟨A, c, hv, hc, fun h0 => ?_⟩
  obtain ⟨b, o, hA, hbl, hcell⟩ := hx h0
  exact ⟨b, o, hA, Nat.lt_of_lt_of_le hbl hb.size, fun j x hj => (hb.cell (p := ⟨b, o + j, none⟩) hbl).trans (hcell j x hj)⟩
theorem OwnS.len {w : World} {base : Nat} {v : Value} {l : List (List UInt8)} (h : OwnS w base v l) : l.length ≤ 9223372036854775807 := by
  rcases h.2 with ⟨_, h0⟩ | ⟨g, cap, cur, _, _, _, hn, hm, _⟩
  · omega
  · unfold maxLen at hm
    omega
theorem Lst.nil (w : World) : Lst w (.slice none 0 0) [] := ⟨none, 0, rfl, ⟨Nat.le_refl _, fun _ => rfl⟩, fun h => absurd h (Nat.lt_irrefl _)⟩
theorem sts_at (l : List (List UInt8)) (k : Nat) (x : List UInt8) (h : l[k]? = some x) : (sts l)[k]? = some (.string (str x)) := by
  unfold sts
  rw [List.getElem?_map, h]
  rfl

/-- Appending a slice of strings, a nil one too. -/
theorem app_lst (w : World) {ops : Array Oper} {rest : List Oper} {o : Oper} {a : Act} {Q : Exit → Act → World → Prop} (hgd : o.guard = none) (s x : Operand)
    (ho : o.op = .call { callee := .builtin .append, args := #[s, x], argTypes := #[32, 32] }) (base : Nat) (v : Value) (l m : List (List UInt8)) (hs : a.eval s = v) (hown : OwnS w base v l)
    (y : Value) (hx : a.eval x = y) (hy : Lst w y m) (hb : base ≤ w.heap.size)
    (hl : l.length + m.length ≤ 1099511627776) (h : ∀ v' w', OwnS w' base v' (l ++ m) → Below base w w' → wpList Tryd.prog ops Q rest (a.put o.dst v') w') : wpList Tryd.prog ops Q (o :: rest) a w := by
  obtain ⟨i, hi, hz, hsz, hby⟩ := info_parts info_str
  obtain ⟨A, c, rfl, ⟨hc, hn⟩, hcell⟩ := hy
  cases A with
  | none =>
    obtain rfl := hn rfl
    have h0 : m = [] := List.length_eq_zero_iff.1 (by omega)
    subst h0
    refine wpList_plain hgd fun K hK => ?_
    have hrun := run_append_owned_none (P := Tryd.prog) w base 32 o.type 9 i 1 Tryd.underlying32 hi v l.length (sts l) hown
    unfold Oper.wp
    simp only [List.length_nil] at hx
    simp [execOp, ho, resolve, invoke, builtin, hs, hx, hrun, Result.andThen]
    exact hK _ _ (h v w (by rw [List.append_nil]; exact hown) (Below.refl _ _))
  | some ad =>
    have hcells : ∀ (j : Nat) u, (sts m)[j]? = some u → w.cell? (ad.add j) = some u := by
      intro j u hu
      have hj := (List.getElem?_eq_some_iff.1 hu).1
      rw [List.length_map] at hj
      obtain ⟨b, f, hA, _, hcc⟩ := hcell (by omega)
      obtain rfl := Option.some.inj hA
      have hadd : (⟨b, f, none⟩ : Addr).add j = ⟨b, f + j, none⟩ := by unfold Addr.add; split <;> simp_all
      rw [hadd]
      exact hcc j u hu
    refine wpList_append_own w hgd s x 32 ho base 9 i _ 1 16 Tryd.underlying32 hi hz hsz hby rfl (by decide) v l.length (sts l) hs hown ad m.length c (sts m) hx (by simp) hcells (sts_one m) (by unfold maxLen; omega) (by omega) hb ?_
    intro v' w' h1 h2 _
    refine h v' w' ?_ (own_grown hown h2 hb)
    unfold OwnS sts
    rw [List.length_append, List.map_append]
    exact h1

section
open Go.ChangeShapes Go.WideShapes
theorem cells_string : Tryd.prog.cellsOf 9 = 1 := by kernel_rfl
theorem laid_out : laidOutB Tryd.prog = true := by kernel_rfl
theorem open_list {H : Type} {enc : TypeId × Value → H} {W : World} {base : Nat} {v : Value} {d : DataW H} {ps : List MemPlace} (hval : Value.okWide Tryd.prog W .any base 32 v)
    (h : DataW.Trod enc Tryd.prog W 0 (fun _ => true) true 32 v d ps) : ∃ l : List (List UInt8), Lst W v l ∧ l.length ≤ 9223372036854775807 ∧ ∀ x ∈ ps, x.block < W.heap.size := by
  have hlt := (trodAll_mk1 h).lt
  obtain ⟨a0, len, cap, rfl⟩ := okWide_slice Tryd.underlying32 hval
  obtain ⟨fuel, hf⟩ := h
  rcases open_strings Tryd.underlying32 Tryd.underlying9 cells_string hf with ⟨hcs, _⟩ | ⟨a, len', cap', ss, hcs, _, hl, hm, hz, _, hcell, _⟩
  · simp [Value.cells] at hcs
    obtain ⟨rfl, rfl, rfl⟩ := hcs
    exact ⟨[], Lst.nil _, by simp, hlt⟩
  · simp [Value.cells] at hcs
    obtain ⟨rfl, rfl, rfl⟩ := hcs
    simp only [if_true] at hz
    have hll : ((ss.take len).map (·.data.toList)).length = len := by rw [List.length_map, List.length_take]; omega
    refine ⟨(ss.take len).map (·.data.toList), ⟨_, _, by rw [hll], ⟨by omega, fun h => absurd h (by simp)⟩, fun h0 => ?_⟩, by unfold maxLen at hm; omega, hlt⟩
    rw [hll] at h0
    obtain ⟨b, off, spot⟩ := a
    have h00 := hcell 0 (by omega)
    have hspot : spot = none := by simpa [Addr.add] using World.cell?_spot h00
    subst hspot
    refine ⟨b, off, rfl, ?_, fun j x hj => ?_⟩
    · exact World.block_lt_of_cell? _ _ h00
    · have hjl : j < len := by
        have := (List.getElem?_eq_some_iff.1 hj).1
        rw [List.length_map, hll] at this
        exact this
      have hc := hcell j (by omega)
      have hadd : (⟨b, off, none⟩ : Addr).add j = ⟨b, off + j, none⟩ := by unfold Addr.add; split <;> simp_all
      rw [hadd] at hc
      rw [hc, ← hj]
      unfold sts
      rw [List.map_map, List.getElem?_map, List.getElem?_take, if_pos hjl, List.getElem?_eq_getElem (by omega)]
      simp [List.getD, List.getElem?_eq_getElem (show j < ss.length by omega)]
end
end Go.Proofs.YtlpemdhjbpekaaaDoor
