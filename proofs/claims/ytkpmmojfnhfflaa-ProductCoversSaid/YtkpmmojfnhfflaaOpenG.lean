/-
  A slice of structs among a row's arguments reads as a list. Condition: none beyond each theorem's own hypotheses.
-/
import Derived.Test.YtkpmmojfnhfflaaRow
import Derived.Test.YtkpmmojfnhfflaaOpenI
import Derived.Deep.Slices
import Derived.ChangeSame
namespace Go.Proofs.Ytkpmmojfnhfflaa
open Go.RowKit Go.ChangeShapes Go.WideShapes Go.Deep

set_option maxRecDepth 100000 in
theorem open_listG {α : Type} [Inhabited α] {enc' : α → List Value} {ok : α → Prop} {k : Nat} {ST T : TypeId} (k0 : 0 < k) (hk : ∀ a, (enc' a).length = k) (hu : Try.prog.underlying ST = some (.slice T)) (hC : Try.prog.cellsOf T = k)
    {H : Type} {enc : TypeId × Value → H} {W : World} {base : Nat} {v : Value} {d : DataW H} {ps : List MemPlace}
    (he : ∀ n cs x, DataW.trod enc Try.prog W 0 (fun _ => true) true n T cs = some x → ∃ a : α, ok a ∧ cs = enc' a)
    (hval : Value.okWide Try.prog W .any base ST v) (h : DataW.Trod enc Try.prog W 0 (fun _ => true) true ST v d ps) : ∃ l : List α, LstG enc' W v l ∧ l.length ≤ 9223372036854775807 ∧ (∀ x ∈ ps, x.block < W.heap.size) ∧ ∀ a ∈ l, ok a := by
  have hlt := (trodAll_mk1 h).lt
  obtain ⟨a0, len, cap, rfl⟩ := okWide_slice hu hval
  obtain ⟨fuel, hf⟩ := h
  rcases open_slice hu hf with ⟨hcs, _⟩ | ⟨a, len', cap', m, n, D, Pl, hcs, _, hl, hm, hmm, _, hcell⟩
  · simp [Value.cells] at hcs
    obtain ⟨rfl, rfl, rfl⟩ := hcs
    exact ⟨[], LstG.nil _ _, by simp, hlt, fun x hx => absurd hx (by simp)⟩
  · simp [Value.cells] at hcs
    obtain ⟨rfl, rfl, rfl⟩ := hcs
    simp only [if_true] at hmm
    rw [hC] at hcell
    have each : ∀ i, i < len → ∃ q : α, ok q ∧ ∀ j x, (enc' q)[j]? = some x → W.cell? (a.add (i * k + j)) = some x := by
      intro i hi
      obtain ⟨cs', h1, h2⟩ := hcell i (by omega)
      obtain ⟨q, hq, rfl⟩ := he _ _ _ h2
      obtain ⟨_, hcl, hat⟩ := World.cells?_some h1
      refine ⟨q, hq, fun j x hj => ?_⟩
      have hjl := (List.getElem?_eq_some_iff.1 hj).1
      rw [hk] at hjl
      rw [← Go.Deep.add_add, hat j hjl, hj]
    let f : Nat → α := fun i => if hi : i < len then Classical.choose (each i hi) else default
    have hfi : ∀ i (hi : i < len), ok (f i) ∧ ∀ j x, (enc' (f i))[j]? = some x → W.cell? (a.add (i * k + j)) = some x := by
      intro i hi
      show ok (if hi : i < len then _ else _) ∧ _
      simp only [f, dif_pos hi]
      exact Classical.choose_spec (each i hi)
    have hll : ((List.range len).map f).length = len := by simp
    have hat : ∀ i, i < len → ((List.range len).map f)[i]? = some (f i) := fun i hi => by simp [hi]
    refine ⟨(List.range len).map f, ⟨some a, cap, by rw [hll], by rw [hll]; exact hl, fun h => absurd h (by simp), fun h0 => ?_⟩, by rw [hll]; unfold maxLen at hm; omega, hlt, fun q hq => ?_⟩
    · rw [hll] at h0
      obtain ⟨b, off, spot⟩ := a
      have hx0 : ∃ x, (enc' (f 0))[0]? = some x := ⟨_, List.getElem?_eq_getElem (by rw [hk]; exact k0)⟩
      obtain ⟨x0, hx0⟩ := hx0
      have h00 := (hfi 0 h0).2 0 x0 hx0
      have hspot : spot = none := by simpa [Addr.add] using World.cell?_spot h00
      subst hspot
      have hadd : ∀ j, (⟨b, off, none⟩ : Addr).add j = ⟨b, off + j, none⟩ := fun j => by unfold Addr.add; split <;> simp_all
      refine ⟨b, off, rfl, ?_, fun j x hj => ?_⟩
      · rw [hadd] at h00
        exact World.block_lt_of_cell? _ _ h00
      · have hjl := (List.getElem?_eq_some_iff.1 hj).1
        rw [fl_len hk, hll] at hjl
        have hi : j / k < len := Nat.div_lt_of_lt_mul (by rw [Nat.mul_comm]; exact hjl)
        have hjk : j / k * k + j % k = j := by rw [Nat.mul_comm]; exact Nat.div_add_mod j k
        have h2 := fl_at hk (hat _ hi) (j % k) (Nat.mod_lt _ k0)
        rw [hjk, hj] at h2
        have := (hfi _ hi).2 (j % k) x h2.symm
        rw [hjk, hadd] at this
        exact this
    · obtain ⟨i, hi, rfl⟩ := List.mem_map.1 hq
      exact (hfi i (List.mem_range.1 hi)).1
end Go.Proofs.Ytkpmmojfnhfflaa
