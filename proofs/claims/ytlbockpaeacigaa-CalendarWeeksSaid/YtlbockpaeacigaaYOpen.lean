/-
  Calendars, exceptions and services among the arguments of this package's laws. Condition: none beyond each theorem's own hypotheses.
-/
import Derived.Test.YtlbockpaeacigaaYLaw3
import Derived.Test.YtlbockpaeacigaaYLaw2
import Derived.Test.YtlbockpaeacigaaYLaw5
import Derived.Deep.Strs
import Derived.Lib.SmallJoins
namespace Go.Proofs.Ytlbockpaeacigaa
open Go.RowKit Go.ChangeShapes Go.WideShapes Go.Deep

/-- A slice of structs among a struct's parts. -/
theorem trod_listG {α : Type} [Inhabited α] {enc' : α → List Value} {ok : α → Prop} {k : Nat} {ST T : TypeId} (k0 : 0 < k) (hk : ∀ a, (enc' a).length = k) (hu : Try.prog.underlying ST = some (.slice T)) (hC : Try.prog.cellsOf T = k)
    {H : Type} {enc : TypeId × Value → H} {W : World} {n : Nat} {cs : List Value} {x : DataW H × List MemPlace}
    (he : ∀ n cs x, DataW.trod enc Try.prog W 0 (fun _ => true) true n T cs = some x → ∃ a : α, ok a ∧ cs = enc' a)
    (hf : DataW.trod enc Try.prog W 0 (fun _ => true) true n ST cs = some x) : ∃ v l, cs = [v] ∧ LstG enc' W v l ∧ l.length ≤ 9223372036854775807 ∧ ∀ a ∈ l, ok a := by
  rcases open_slice hu hf with ⟨hcs, _⟩ | ⟨a, len, cap, m, n, D, Pl, hcs, _, hl, hm, hmm, _, hcell⟩
  · exact ⟨_, [], hcs, LstG.nil _ _, by simp, fun x hx => absurd hx (by simp)⟩
  · simp only [if_true] at hmm
    rw [hC] at hcell
    have each : ∀ i, i < len → ∃ q : α, ok q ∧ ∀ j x, (enc' q)[j]? = some x → W.cell? (a.add (i * k + j)) = some x := by
      intro i hi
      obtain ⟨cs', h1, h2⟩ := hcell i (by omega)
      obtain ⟨q, hq, rfl⟩ := he _ _ _ h2
      obtain ⟨_, hcl, hat⟩ := World.cells?_some h1
      refine ⟨q, hq, fun j x hj => ?_⟩
      have hjl := (List.getElem?_eq_some_iff.1 hj).1
      rw [hk] at hjl
      rw [← Go.Deep.add_add, hat j hjl, hj]
    let f : Nat → α := fun i => if hi : i < len then Classical.choose (each i hi) else default
    have hfi : ∀ i (hi : i < len), ok (f i) ∧ ∀ j x, (enc' (f i))[j]? = some x → W.cell? (a.add (i * k + j)) = some x := by
      intro i hi
      show ok (if hi : i < len then _ else _) ∧ _
      simp only [f, dif_pos hi]
      exact Classical.choose_spec (each i hi)
    have hll : ((List.range len).map f).length = len := by simp
    have hat : ∀ i, i < len → ((List.range len).map f)[i]? = some (f i) := fun i hi => by simp [hi]
    refine ⟨_, (List.range len).map f, hcs, ⟨some a, cap, by rw [hll], by rw [hll]; exact hl, fun h => absurd h (by simp), fun h0 => ?_⟩, by rw [hll]; unfold maxLen at hm; omega, fun q hq => ?_⟩
    · rw [hll] at h0
      obtain ⟨b, off, spot⟩ := a
      have hx0 : ∃ x, (enc' (f 0))[0]? = some x := ⟨_, List.getElem?_eq_getElem (by rw [hk]; exact k0)⟩
      obtain ⟨x0, hx0⟩ := hx0
      have h00 := (hfi 0 h0).2 0 x0 hx0
      have hspot : spot = none := by simpa [Addr.add] using World.cell?_spot h00
      subst hspot
      have hadd : ∀ j, (⟨b, off, none⟩ : Addr).add j = ⟨b, off + j, none⟩ := fun j => by unfold Addr.add; split <;> simp_all
      refine ⟨b, off, rfl, ?_, fun j x hj => ?_⟩
      · rw [hadd] at h00
        exact World.block_lt_of_cell? _ _ h00
      · have hjl := (List.getElem?_eq_some_iff.1 hj).1
        rw [fl_len hk, hll] at hjl
        have hi : j / k < len := Nat.div_lt_of_lt_mul (by rw [Nat.mul_comm]; exact hjl)
        have hjk : j / k * k + j % k = j := by rw [Nat.mul_comm]; exact Nat.div_add_mod j k
        have h2 := fl_at hk (hat _ hi) (j % k) (Nat.mod_lt _ k0)
        rw [hjk, hj] at h2
        have := (hfi _ hi).2 (j % k) x h2.symm
        rw [hjk, hadd] at this
        exact this
    · obtain ⟨i, hi, rfl⟩ := List.mem_map.1 hq
      exact (hfi i (List.mem_range.1 hi)).1
theorem trod_week {H : Type} {enc : TypeId × Value → H} {W : World} {n : Nat} {cs : List Value} {x : DataW H × List MemPlace} (h : DataW.trod enc Try.prog W 0 (fun _ => true) true n 48 cs = some x) :
    ∃ k : Nat → Bool, cs = [.bool (k 0), .bool (k 1), .bool (k 2), .bool (k 3), .bool (k 4), .bool (k 5), .bool (k 6)] := by
  obtain ⟨xs, m, _, _, hl, hxs, hi⟩ := DataW.trod_array Try.underlying48 h
  rw [show Try.prog.cellsOf 48 = 7 by kernel_rfl] at hl
  rw [show Try.prog.cellsOf 4 = 1 by kernel_rfl] at hi
  have one : ∀ i, i < 7 → ∃ b, (cs.drop (i * 1)).take 1 = [.bool b] := by
    intro i h7
    have := hi i h7
    rw [List.getElem?_eq_getElem (by omega)] at this
    obtain ⟨b, e, _⟩ := DataW.trod_bool Try.underlying4 this
    exact ⟨b, e⟩
  match cs, hl with
  | [c0, c1, c2, c3, c4, c5, c6], _ =>
    obtain ⟨b0, e0⟩ := one 0 (by omega)
    obtain ⟨b1, e1⟩ := one 1 (by omega)
    obtain ⟨b2, e2⟩ := one 2 (by omega)
    obtain ⟨b3, e3⟩ := one 3 (by omega)
    obtain ⟨b4, e4⟩ := one 4 (by omega)
    obtain ⟨b5, e5⟩ := one 5 (by omega)
    obtain ⟨b6, e6⟩ := one 6 (by omega)
    simp at e0 e1 e2 e3 e4 e5 e6
    subst e0 e1 e2 e3 e4 e5 e6
    exact ⟨fun i => [b0, b1, b2, b3, b4, b5, b6].getD i false, rfl⟩
theorem trod_cal {H : Type} {enc : TypeId × Value → H} {W : World} {n : Nat} {cs : List Value} {x : DataW H × List MemPlace} (h : DataW.trod enc Try.prog W 0 (fun _ => true) true n 50 cs = some x) :
    ∃ a : Cl, ((-9223372036854775808 ≤ a.2.2.1 ∧ a.2.2.1 ≤ 9223372036854775807) ∧ -9223372036854775808 ≤ a.2.2.2 ∧ a.2.2.2 ≤ 9223372036854775807) ∧ cs = ce a := by
  obtain ⟨y0, y1, y2, y3, n, _, hl, h0, h1, h2, h3⟩ := Go.Joins.trod_struct4 Try.underlying50 h
  rw [show Try.prog.cellsOf 50 = 10 by kernel_rfl] at hl
  match cs, hl with
  | [c0, c1, c2, c3, c4, c5, c6, c7, c8, c9], _ =>
    simp only [show Try.prog.cellsOf 9 = 1 by kernel_rfl, show Try.prog.cellsOf 3 = 1 by kernel_rfl, show Try.prog.cellsOf 48 = 7 by kernel_rfl] at h0 h1 h2 h3
    obtain ⟨s, e0, -⟩ := DataW.trod_string Try.underlying9 h0
    obtain ⟨k, e1⟩ := trod_week h1
    obtain ⟨f, e2, _, w2⟩ := DataW.trod_int Try.underlying3 h2
    obtain ⟨t, e3, _, w3⟩ := DataW.trod_int Try.underlying3 h3
    simp at e0 e1 e2 e3
    obtain ⟨rfl, rfl, rfl, rfl, rfl, rfl, rfl⟩ := e1
    subst e0 e2 e3
    refine ⟨(s.data.toList, k, f, t), ⟨⟨int_low w2, int_top w2⟩, int_low w3, int_top w3⟩, ?_⟩
    unfold ce
    rw [str_list]
theorem trod_struct_three {H : Type} {enc : TypeId × Value → H} {P : Program} {w : World} {base : Nat} {spare : Nat → Bool} {held : Bool} {t : TypeId} {f0 f1 f2 : Field} {fuel : Nat} {cs : List Value} {x : DataW H × List MemPlace} (ht : P.underlying t = some (.struct #[f0, f1, f2])) (h : DataW.trod enc P w base spare held fuel t cs = some x) :
    ∃ y0 y1 y2 n, cs.length = P.cellsOf t ∧ DataW.trod enc P w base spare held n f0.type ((cs.drop f0.offset).take (P.cellsOf f0.type)) = some y0 ∧
      DataW.trod enc P w base spare held n f1.type ((cs.drop f1.offset).take (P.cellsOf f1.type)) = some y1 ∧ DataW.trod enc P w base spare held n f2.type ((cs.drop f2.offset).take (P.cellsOf f2.type)) = some y2 := by
  obtain ⟨xs, n, _, rfl, hl, hlen, hf⟩ := DataW.trod_struct ht h
  match xs, hlen with
  | [y0, y1, y2], _ => exact ⟨y0, y1, y2, n, hl, by simpa using hf 0 f0 rfl, by simpa using hf 1 f1 rfl, by simpa using hf 2 f2 rfl⟩
theorem trod_exc {H : Type} {enc : TypeId × Value → H} {W : World} {n : Nat} {cs : List Value} {x : DataW H × List MemPlace} (h : DataW.trod enc Try.prog W 0 (fun _ => true) true n 53 cs = some x) :
    ∃ a : Ex, ((-9223372036854775808 ≤ a.1 ∧ a.1 ≤ 9223372036854775807) ∧ -9223372036854775808 ≤ a.2.1 ∧ a.2.1 ≤ 9223372036854775807) ∧ cs = xe a := by
  obtain ⟨y0, y1, y2, n, hl, h0, h1, h2⟩ := trod_struct_three Try.underlying53 h
  rw [show Try.prog.cellsOf 53 = 3 by kernel_rfl] at hl
  match cs, hl with
  | [c0, c1, c2], _ =>
    simp only [show Try.prog.cellsOf 3 = 1 by kernel_rfl, show Try.prog.cellsOf 4 = 1 by kernel_rfl] at h0 h1 h2
    obtain ⟨k, e0, _, w0⟩ := DataW.trod_int Try.underlying3 h0
    obtain ⟨d, e1, _, w1⟩ := DataW.trod_int Try.underlying3 h1
    obtain ⟨f, e2, -⟩ := DataW.trod_bool Try.underlying4 h2
    simp at e0 e1 e2
    subst e0 e1 e2
    exact ⟨(k, d, f), ⟨⟨int_low w0, int_top w0⟩, int_low w1, int_top w1⟩, rfl⟩
instance : Inhabited Cl := ⟨([], fun _ => false, 0, 0)⟩
instance : Inhabited Ex := ⟨(0, 0, false)⟩
section
variable {H : Type} {enc : TypeId × Value → H} {W : World} {base : Nat} {v : Value} {d : DataW H} {ps : List MemPlace}
theorem open_list_Calendar (hval : Value.okWide Try.prog W .any base 22 v)
    (h : DataW.Trod enc Try.prog W 0 (fun _ => true) true 22 v d ps) : ∃ l : List Cl, LstC W v l ∧ l.length ≤ 9223372036854775807 ∧ (∀ x ∈ ps, x.block < W.heap.size) ∧ OkC l :=
  open_listG (by decide) ce_len Try.underlying22 (by kernel_rfl) (fun _ _ _ h => by obtain ⟨a, h1, rfl⟩ := trod_cal h; exact ⟨a, h1, rfl⟩) hval h
theorem open_list_Exception (hval : Value.okWide Try.prog W .any base 30 v)
    (h : DataW.Trod enc Try.prog W 0 (fun _ => true) true 30 v d ps) : ∃ l : List Ex, LstX W v l ∧ l.length ≤ 9223372036854775807 ∧ (∀ x ∈ ps, x.block < W.heap.size) ∧ OkX l :=
  open_listG (by decide) xe_len Try.underlying30 (by kernel_rfl) (fun _ _ _ h => by obtain ⟨a, h1, rfl⟩ := trod_exc h; exact ⟨a, h1, rfl⟩) hval h
/-- A service: its two slices. -/
theorem open_Service (hval : Value.okWide Try.prog W .any base 35 v) (h : DataW.Trod enc Try.prog W 0 (fun _ => true) true 35 v d ps) :
    ∃ (lv : Value) (l : List Cl) (xv : Value) (x : List Ex), v = .agg #[lv, xv] ∧ (∀ x ∈ ps, x.block < W.heap.size) ∧ LstC W lv l ∧ l.length ≤ 9223372036854775807 ∧ OkC l ∧ LstX W xv x ∧ x.length ≤ 9223372036854775807 ∧ OkX x := by
  have hlt := (trodAll_mk1 h).lt
  obtain ⟨v0, v1, y0, y1, n, rfl, -, -, h0, h1⟩ := Joins.open_agg2 Try.underlying35 (by kernel_rfl) (by kernel_rfl) hval h
  obtain ⟨lv, l, e0, a1, a2, a3⟩ := trod_listG (by decide) ce_len Try.underlying22 (by kernel_rfl) (fun _ _ _ h => by obtain ⟨a, h1, rfl⟩ := trod_cal h; exact ⟨a, h1, rfl⟩) h0
  obtain ⟨xv, x, e1, c1, c2, c3⟩ := trod_listG (by decide) xe_len Try.underlying30 (by kernel_rfl) (fun _ _ _ h => by obtain ⟨a, h1, rfl⟩ := trod_exc h; exact ⟨a, h1, rfl⟩) h1
  simp at e0 e1
  subst e0 e1
  exact ⟨v0, l, v1, x, rfl, hlt, a1, a2, a3, c1, c2, c3⟩
/-- An exception. -/
theorem open_Exception (hval : Value.okWide Try.prog W .any base 53 v) (h : DataW.Trod enc Try.prog W 0 (fun _ => true) true 53 v d ps) :
    ∃ (k d' : Int) (f : Bool), v = .agg #[.int .i64 k, .int .i64 d', .bool f] ∧ ∀ x ∈ ps, x.block < W.heap.size := by
  have hlt := (trodAll_mk1 h).lt
  obtain ⟨v0, v1, v2, y0, y1, y2, n, rfl, -, -, h0, h1, h2⟩ := Joins.open_agg3 Try.underlying53 (by kernel_rfl) (by kernel_rfl) hval h
  obtain ⟨k, e0, _, w0⟩ := DataW.trod_int Try.underlying3 h0
  obtain ⟨d, e1, _, w1⟩ := DataW.trod_int Try.underlying3 h1
  obtain ⟨f, e2, -⟩ := DataW.trod_bool Try.underlying4 h2
  simp at e0 e1 e2
  subst e0 e1 e2
  exact ⟨k, d, f, rfl, hlt⟩
end
end Go.Proofs.Ytlbockpaeacigaa
