/-
  The items that are encoded, among a row's arguments: a slice of structs of an unsigned integer, an integer, a byte string, a bool and a list of integers. Condition: none beyond each theorem's own hypotheses.
-/
import Derived.Test.YteojfgpinmpocaaED
import Derived.Test.YteojfgpinmpocaaOpenG
import Derived.Lib.SmallJoins
namespace Go.Proofs.Yteojfgpinmpocaa
open Go.RowKit Go.ChangeShapes Go.WideShapes Go.Deep

/-- An item: its number, its integer, its byte string (the value, the bytes), its bool, its list (the value, the integers). -/
abbrev It := Nat × Int × (Value × List UInt8) × Bool × (Value × List Int)
def itC (x : It) : List Value := [.int .u64 (x.1 : Int), .int .i64 x.2.1, x.2.2.1.1, .bool x.2.2.2.1, x.2.2.2.2.1]
theorem itC_len (x : It) : (itC x).length = 5 := rfl
instance : Inhabited It := ⟨(0, 0, (.slice none 0 0, []), false, (.slice none 0 0, []))⟩
/-- The item's parts are what they can be in the world. -/
def OkI (W : World) (x : It) : Prop := x.1 < 18446744073709551616 ∧ I64 x.2.1 ∧ (LstB W x.2.2.1.1 x.2.2.1.2 ∧ x.2.2.1.2.length ≤ 9223372036854775807) ∧ (LstI W x.2.2.2.2.1 x.2.2.2.2.2 ∧ x.2.2.2.2.2.length ≤ 9223372036854775807) ∧ ∀ y ∈ x.2.2.2.2.2, I64 y
theorem trod_struct5 {H : Type} {enc : TypeId × Value → H} {P : Program} {w : World} {base : Nat} {spare : Nat → Bool} {held : Bool} {t : TypeId} {f0 f1 f2 f3 f4 : Field} {fuel : Nat} {cs : List Value} {x : DataW H × List MemPlace} (ht : P.underlying t = some (.struct #[f0, f1, f2, f3, f4])) (h : DataW.trod enc P w base spare held fuel t cs = some x) :
    ∃ y0 y1 y2 y3 y4 n, cs.length = P.cellsOf t ∧ DataW.trod enc P w base spare held n f0.type ((cs.drop f0.offset).take (P.cellsOf f0.type)) = some y0 ∧
      DataW.trod enc P w base spare held n f1.type ((cs.drop f1.offset).take (P.cellsOf f1.type)) = some y1 ∧ DataW.trod enc P w base spare held n f2.type ((cs.drop f2.offset).take (P.cellsOf f2.type)) = some y2 ∧
      DataW.trod enc P w base spare held n f3.type ((cs.drop f3.offset).take (P.cellsOf f3.type)) = some y3 ∧ DataW.trod enc P w base spare held n f4.type ((cs.drop f4.offset).take (P.cellsOf f4.type)) = some y4 := by
  obtain ⟨xs, n, _, rfl, hl, hlen, hf⟩ := DataW.trod_struct ht h
  match xs, hlen with
  | [y0, y1, y2, y3, y4], _ => exact ⟨y0, y1, y2, y3, y4, n, hl, by simpa using hf 0 f0 rfl, by simpa using hf 1 f1 rfl, by simpa using hf 2 f2 rfl, by simpa using hf 3 f3 rfl, by simpa using hf 4 f4 rfl⟩
theorem trod_listB {H : Type} {enc : TypeId × Value → H} {W : World} {n : Nat} {cs : List Value} {x : DataW H × List MemPlace} (hf : DataW.trod enc Try.prog W 0 (fun _ => true) true n 23 cs = some x) : ∃ v l, cs = [v] ∧ LstB W v l ∧ l.length ≤ 9223372036854775807 := by
  rcases Go.ChangeShapes.open_ints Try.underlying23 Try.underlying5 cells_u8 hf with ⟨hcs, _⟩ | ⟨a, len, cap, ss, hcs, _, hl, hm, hz, _, hcell, hwf⟩
  · exact ⟨_, [], hcs, LstB.nil _, by simp⟩
  · simp only [if_true] at hz
    have hll : ((ss.take len).map fun x => UInt8.ofNat x.toNat).length = len := by rw [List.length_map, List.length_take]; omega
    refine ⟨_, (ss.take len).map fun x => UInt8.ofNat x.toNat, hcs, ⟨_, _, by rw [hll], by omega, fun h => absurd h (by simp), fun h0 => ?_⟩, by unfold maxLen at hm; omega⟩
    rw [hll] at h0
    obtain ⟨b, off, spot⟩ := a
    have h00 := hcell 0 (by omega)
    have hspot : spot = none := by simpa [Addr.add] using World.cell?_spot h00
    subst hspot
    refine ⟨b, off, rfl, ?_, fun j x hj => ?_⟩
    · exact World.block_lt_of_cell? _ _ h00
    · have hjl : j < len := by
        have := (List.getElem?_eq_some_iff.1 hj).1
        rw [List.length_map, hll] at this
        exact this
      have hc := hcell j (by omega)
      have hadd : (⟨b, off, none⟩ : Addr).add j = ⟨b, off + j, none⟩ := by unfold Addr.add; split <;> simp_all
      rw [hadd] at hc
      have hjs : j < ss.length := by omega
      have hw := u8_range (hwf ss[j] (List.getElem_mem hjs))
      rw [hc, ← hj]
      unfold bts
      rw [List.map_map, List.getElem?_map, List.getElem?_take, if_pos hjl, List.getElem?_eq_getElem hjs]
      simp only [List.getD, List.getElem?_eq_getElem hjs, Option.getD_some, Option.map_some, Function.comp]
      have e : (((UInt8.ofNat ss[j].toNat).toNat : Nat) : Int) = ss[j] := by
        rw [UInt8.toNat_ofNat', Nat.mod_eq_of_lt (by omega)]
        omega
      rw [e]
theorem trod_listI {H : Type} {enc : TypeId × Value → H} {W : World} {n : Nat} {cs : List Value} {x : DataW H × List MemPlace} (hf : DataW.trod enc Try.prog W 0 (fun _ => true) true n 29 cs = some x) : ∃ v l, cs = [v] ∧ (LstI W v l ∧ l.length ≤ 9223372036854775807) ∧ ∀ y ∈ l, I64 y := by
  rcases Go.ChangeShapes.open_ints Try.underlying29 Try.underlying3 cells_int hf with ⟨hcs, _⟩ | ⟨a, len, cap, ss, hcs, _, hl, hm, hz, _, hcell, hwf⟩
  · exact ⟨_, [], hcs, ⟨LstI.nil _, by simp⟩, fun x hx => absurd hx (by simp)⟩
  · simp only [if_true] at hz
    have hll : (ss.take len).length = len := by rw [List.length_take]; omega
    refine ⟨_, ss.take len, hcs, ⟨⟨_, _, by rw [hll], by omega, fun h => absurd h (by simp), fun h0 => ?_⟩, by unfold maxLen at hm; omega⟩, fun x hx => ⟨int_low (hwf x (List.mem_of_mem_take hx)), int_top (hwf x (List.mem_of_mem_take hx))⟩⟩
    rw [hll] at h0
    obtain ⟨b, off, spot⟩ := a
    have h00 := hcell 0 (by omega)
    have hspot : spot = none := by simpa [Addr.add] using World.cell?_spot h00
    subst hspot
    refine ⟨b, off, rfl, ?_, fun j x hj => ?_⟩
    · exact World.block_lt_of_cell? _ _ h00
    · have hjl : j < len := by
        have := (List.getElem?_eq_some_iff.1 hj).1
        rw [List.length_map, hll] at this
        exact this
      have hc := hcell j (by omega)
      have hadd : (⟨b, off, none⟩ : Addr).add j = ⟨b, off + j, none⟩ := by unfold Addr.add; split <;> simp_all
      rw [hadd] at hc
      rw [hc, ← hj]
      unfold ints
      rw [List.getElem?_map, List.getElem?_take, if_pos hjl, List.getElem?_eq_getElem (by omega)]
      simp [List.getD, List.getElem?_eq_getElem (show j < ss.length by omega)]
theorem trod_item {H : Type} {enc : TypeId × Value → H} {W : World} {n : Nat} {cs : List Value} {x : DataW H × List MemPlace} (h : DataW.trod enc Try.prog W 0 (fun _ => true) true n 59 cs = some x) : ∃ a : It, OkI W a ∧ cs = itC a := by
  obtain ⟨y0, y1, y2, y3, y4, n, hl, h0, h1, h2, h3, h4⟩ := trod_struct5 Try.underlying59 h
  rw [show Try.prog.cellsOf 59 = 5 by kernel_rfl] at hl
  match cs, hl with
  | [c0, c1, c2, c3, c4], _ =>
    simp only [show Try.prog.cellsOf 22 = 1 by kernel_rfl, show Try.prog.cellsOf 3 = 1 by kernel_rfl, show Try.prog.cellsOf 23 = 1 by kernel_rfl, show Try.prog.cellsOf 4 = 1 by kernel_rfl, show Try.prog.cellsOf 29 = 1 by kernel_rfl] at h0 h1 h2 h3 h4
    obtain ⟨u, e0, _, w0⟩ := DataW.trod_int Try.underlying22 h0
    obtain ⟨i, e1, _, w1⟩ := DataW.trod_int Try.underlying3 h1
    obtain ⟨sv, s, e2, hs⟩ := trod_listB h2
    obtain ⟨b, e3, _⟩ := DataW.trod_bool Try.underlying4 h3
    obtain ⟨lv, li, e4, hl, hi⟩ := trod_listI h4
    simp at e0 e1 e2 e3 e4
    subst e0 e1 e2 e3 e4
    obtain ⟨u, rfl⟩ := Int.eq_ofNat_of_zero_le (u64_low w0)
    exact ⟨(u, i, (c2, s), b, (c4, li)), ⟨u64_lt w0, ⟨int_low w1, int_top w1⟩, hs, hl, hi⟩, rfl⟩
theorem open_list_It0 {H : Type} {enc : TypeId × Value → H} {W : World} {base : Nat} {v : Value} {d : DataW H} {ps : List MemPlace} (hval : Value.okWide Try.prog W .any base 57 v)
    (h : DataW.Trod enc Try.prog W 0 (fun _ => true) true 57 v d ps) : ∃ l : List It, LstG itC W v l ∧ l.length ≤ 9223372036854775807 ∧ (∀ x ∈ ps, x.block < W.heap.size) ∧ ∀ a ∈ l, OkI W a :=
  open_listG (by decide) itC_len Try.underlying57 (by kernel_rfl) (fun _ _ _ h => trod_item h) hval h
end Go.Proofs.Yteojfgpinmpocaa
