/-
  Structs with slices of structs inside, in a slice or by value, among a row's arguments. Condition: none beyond each theorem's own hypotheses.
-/
import Derived.Test.YtkpmmojfnhfflaaOpenG
import Derived.Deep.Strs
import Derived.Lib.SmallJoins
namespace Go.Proofs.Ytkpmmojfnhfflaa
open Go.RowKit Go.ChangeShapes Go.WideShapes Go.Deep

/-- A slice of structs among a struct's parts. -/
theorem trod_listG {α : Type} [Inhabited α] {enc' : α → List Value} {ok : α → Prop} {k : Nat} {ST T : TypeId} (k0 : 0 < k) (hk : ∀ a, (enc' a).length = k) (hu : Try.prog.underlying ST = some (.slice T)) (hC : Try.prog.cellsOf T = k)
    {H : Type} {enc : TypeId × Value → H} {W : World} {n : Nat} {cs : List Value} {x : DataW H × List MemPlace}
    (he : ∀ n cs x, DataW.trod enc Try.prog W 0 (fun _ => true) true n T cs = some x → ∃ a : α, ok a ∧ cs = enc' a)
    (hf : DataW.trod enc Try.prog W 0 (fun _ => true) true n ST cs = some x) : ∃ v l, cs = [v] ∧ LstG enc' W v l ∧ l.length ≤ 9223372036854775807 ∧ ∀ a ∈ l, ok a := by
  rcases open_slice hu hf with ⟨hcs, _⟩ | ⟨a, len, cap, m, n, D, Pl, hcs, _, hl, hm, hmm, _, hcell⟩
  · exact ⟨_, [], hcs, LstG.nil _ _, by simp, fun x hx => absurd hx (by simp)⟩
  · simp only [if_true] at hmm
    rw [hC] at hcell
    have each : ∀ i, i < len → ∃ q : α, ok q ∧ ∀ j x, (enc' q)[j]? = some x → W.cell? (a.add (i * k + j)) = some x := by
      intro i hi
      obtain ⟨cs', h1, h2⟩ := hcell i (by omega)
      obtain ⟨q, hq, rfl⟩ := he _ _ _ h2
      obtain ⟨_, hcl, hat⟩ := World.cells?_some h1
      refine ⟨q, hq, fun j x hj => ?_⟩
      have hjl := (List.getElem?_eq_some_iff.1 hj).1
      rw [hk] at hjl
      rw [← Go.Deep.add_add, hat j hjl, hj]
    let f : Nat → α := fun i => if hi : i < len then Classical.choose (each i hi) else default
    have hfi : ∀ i (hi : i < len), ok (f i) ∧ ∀ j x, (enc' (f i))[j]? = some x → W.cell? (a.add (i * k + j)) = some x := by
      intro i hi
      show ok (if hi : i < len then _ else _) ∧ _
      simp only [f, dif_pos hi]
      exact Classical.choose_spec (each i hi)
    have hll : ((List.range len).map f).length = len := by simp
    have hat : ∀ i, i < len → ((List.range len).map f)[i]? = some (f i) := fun i hi => by simp [hi]
    refine ⟨_, (List.range len).map f, hcs, ⟨some a, cap, by rw [hll], by rw [hll]; exact hl, fun h => absurd h (by simp), fun h0 => ?_⟩, by rw [hll]; unfold maxLen at hm; omega, fun q hq => ?_⟩
    · rw [hll] at h0
      obtain ⟨b, off, spot⟩ := a
      have hx0 : ∃ x, (enc' (f 0))[0]? = some x := ⟨_, List.getElem?_eq_getElem (by rw [hk]; exact k0)⟩
      obtain ⟨x0, hx0⟩ := hx0
      have h00 := (hfi 0 h0).2 0 x0 hx0
      have hspot : spot = none := by simpa [Addr.add] using World.cell?_spot h00
      subst hspot
      have hadd : ∀ j, (⟨b, off, none⟩ : Addr).add j = ⟨b, off + j, none⟩ := fun j => by unfold Addr.add; split <;> simp_all
      refine ⟨b, off, rfl, ?_, fun j x hj => ?_⟩
      · rw [hadd] at h00
        exact World.block_lt_of_cell? _ _ h00
      · have hjl := (List.getElem?_eq_some_iff.1 hj).1
        rw [fl_len hk, hll] at hjl
        have hi : j / k < len := Nat.div_lt_of_lt_mul (by rw [Nat.mul_comm]; exact hjl)
        have hjk : j / k * k + j % k = j := by rw [Nat.mul_comm]; exact Nat.div_add_mod j k
        have h2 := fl_at hk (hat _ hi) (j % k) (Nat.mod_lt _ k0)
        rw [hjk, hj] at h2
        have := (hfi _ hi).2 (j % k) x h2.symm
        rw [hjk, hadd] at this
        exact this
    · obtain ⟨i, hi, rfl⟩ := List.mem_map.1 hq
      exact (hfi i (List.mem_range.1 hi)).1
theorem trod_struct5 {H : Type} {enc : TypeId × Value → H} {P : Program} {w : World} {base : Nat} {spare : Nat → Bool} {held : Bool} {t : TypeId} {f0 f1 f2 f3 f4 : Field} {fuel : Nat} {cs : List Value} {x : DataW H × List MemPlace} (ht : P.underlying t = some (.struct #[f0, f1, f2, f3, f4])) (h : DataW.trod enc P w base spare held fuel t cs = some x) :
    ∃ y0 y1 y2 y3 y4 n, cs.length = P.cellsOf t ∧ DataW.trod enc P w base spare held n f0.type ((cs.drop f0.offset).take (P.cellsOf f0.type)) = some y0 ∧
      DataW.trod enc P w base spare held n f1.type ((cs.drop f1.offset).take (P.cellsOf f1.type)) = some y1 ∧ DataW.trod enc P w base spare held n f2.type ((cs.drop f2.offset).take (P.cellsOf f2.type)) = some y2 ∧
      DataW.trod enc P w base spare held n f3.type ((cs.drop f3.offset).take (P.cellsOf f3.type)) = some y3 ∧ DataW.trod enc P w base spare held n f4.type ((cs.drop f4.offset).take (P.cellsOf f4.type)) = some y4 := by
  obtain ⟨xs, n, _, rfl, hl, hlen, hf⟩ := DataW.trod_struct ht h
  match xs, hlen with
  | [y0, y1, y2, y3, y4], _ => exact ⟨y0, y1, y2, y3, y4, n, hl, by simpa using hf 0 f0 rfl, by simpa using hf 1 f1 rfl, by simpa using hf 2 f2 rfl, by simpa using hf 3 f3 rfl, by simpa using hf 4 f4 rfl⟩
theorem array_five {α : Type} {a : Array α} (h : a.size = 5) : ∃ x0 x1 x2 x3 x4, a = #[x0, x1, x2, x3, x4] := by
  obtain ⟨l⟩ := a
  match l, h with
  | [x0, x1, x2, x3, x4], _ => exact ⟨x0, x1, x2, x3, x4, rfl⟩
/-- A struct of five one-cell fields by value. -/
theorem open_agg5 {H : Type} {enc : TypeId × Value → H} {P : Program} {w : World} {base : Nat} {spare : Nat → Bool} {held : Bool} {r : Reach} {b0 : Nat} {t : TypeId} {f0 f1 f2 f3 f4 : Field} {v : Value} {d : DataW H} {p : List MemPlace} (hs : P.underlying t = some (.struct #[f0, f1, f2, f3, f4])) (hone : oneCellFields P #[f0, f1, f2, f3, f4] = true) (hC : P.cellsOf t = 5)
    (hv : Value.okWide P w r b0 t v) (h : DataW.Trod enc P w base spare held t v d p) :
    ∃ (v0 v1 v2 v3 v4 : Value) (y0 y1 y2 y3 y4 : DataW H × List MemPlace) (n : Nat), v = .agg #[v0, v1, v2, v3, v4] ∧
      DataW.trod enc P w base spare held n f0.type [v0] = some y0 ∧ DataW.trod enc P w base spare held n f1.type [v1] = some y1 ∧ DataW.trod enc P w base spare held n f2.type [v2] = some y2 ∧ DataW.trod enc P w base spare held n f3.type [v3] = some y3 ∧ DataW.trod enc P w base spare held n f4.type [v4] = some y4 := by
  obtain ⟨cs, rfl, hsz⟩ := okWide_struct hs hv
  obtain ⟨c0, c1, c2, c3, c4, rfl⟩ := array_five (hsz.trans hC)
  obtain ⟨fuel, hf⟩ := h
  obtain ⟨y0, y1, y2, y3, y4, n, _, h0, h1, h2, h3, h4⟩ := trod_struct5 hs hf
  obtain ⟨o0, k0⟩ := hone_of hone 0 f0 rfl
  obtain ⟨o1, k1⟩ := hone_of hone 1 f1 rfl
  obtain ⟨o2, k2⟩ := hone_of hone 2 f2 rfl
  obtain ⟨o3, k3⟩ := hone_of hone 3 f3 rfl
  obtain ⟨o4, k4⟩ := hone_of hone 4 f4 rfl
  exact ⟨c0, c1, c2, c3, c4, y0, y1, y2, y3, y4, n, rfl, by simpa [Value.cells, o0, k0] using h0, by simpa [Value.cells, o1, k1] using h1, by simpa [Value.cells, o2, k2] using h2, by simpa [Value.cells, o3, k3] using h3, by simpa [Value.cells, o4, k4] using h4⟩
end Go.Proofs.Ytkpmmojfnhfflaa
