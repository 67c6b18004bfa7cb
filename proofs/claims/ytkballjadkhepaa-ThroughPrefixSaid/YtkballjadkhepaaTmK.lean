/-
  Check of package through: what the call answers; nothing that existed before the call has changed behind it. Condition: at most 1000000 through services with numbers of 64 bits, at most 1000 frequencies, trips of at most 1000000 calls.
-/
import Derived.Test.YtkballjadkhepaaTmC
import Derived.Test.YtkballjadkhepaaTmP
namespace Go.Proofs.Ytkballjadkhepaa
open Go.RowKit

/-- What a trip is for its table of through services. -/
def tcT (x : Tp) : Tc := (x.2.2.1, x.2.2.2.2.2)
theorem tc_at {ts : List Tp} {i : Nat} {s : List UInt8} {r c : Int} {f : Bool} {v : Value} {cl : List Cl} (h : ts[i]? = some (s, r, c, f, v, cl)) : tcA (ts.map tcT) (i : Int) = (c, cl) := tcA_at rfl (by rw [List.getElem?_map, h]; rfl)
theorem info_hh : (Try.prog.info? 54).map (fun i => (i.zero, i.size, i.bytes)) = some (some (.agg #[.int .i64 0, .int .i64 0]), 2, 16) := by kernel_rfl
theorem size_hh : ∀ w, (Go.sizeOf 54).run Try.prog w = .ok 2 w := fun w => by
  obtain ⟨i, hi, _, hsz, _⟩ := info_parts info_hh
  simp [sizeOf, typeInfo, hi, hsz]
theorem elem_hhs : Try.prog.elem 22 = 54 := by simp [Program.elem, Try.underlying22]
theorem under_hhs : Try.prog.underlying 22 = some (.slice (Try.prog.elem 22)) := by rw [elem_hhs]; exact Try.underlying22
/-- The part l[:j]. -/
theorem ths_to {w : World} {vl : Value} {l : List Th} (h : LstH w vl l) (j : Nat) (hj : j ≤ l.length) (_ : l.length ≤ 9223372036854775807) (x : Int) (hx : x = j) : ∃ u, (∀ W, (Instr.slice 22 vl none (some (.int .i64 x)) none).run Try.prog W = .ok u W) ∧ LstH w u (l.take j) := by
  subst hx
  have H := h
  obtain ⟨A, c, rfl, hc, -, -⟩ := h
  refine ⟨sliced A 0 j c 2, fun W => ?_, ?_⟩
  · rw [run_slice_h W 22 A l.length c under_hhs .i64 j (by omega) (by omega), elem_hhs, size_hh]
    rfl
  · have := LstG.part hh_len H 0 j c (Nat.zero_le _) hj (by omega) (Nat.le_refl _)
    rw [List.drop_zero, Nat.sub_zero] at this
    exact this
theorem far_own {f : FuncId} {args : Array Value} {w W : World} {l : List Int} (h : Calls Try.prog f args W fun e w' => ∃ u, e = .returned u ∧ OwnI w' W.heap.size u l ∧ Below W.heap.size W w') (hb : Below w.heap.size w W) : Calls Try.prog f args W fun e w' => ∃ u, e = .returned u ∧ LstI w' u l ∧ Below w.heap.size w w' :=
  h.mono fun _ _ ⟨u, h1, h2, h3⟩ => ⟨u, h1, OwnI.lst h2, hb.trans (h3.mono hb.size)⟩
theorem far_one {f : FuncId} {args : Array Value} {w W : World} {x : Value} (h : Calls Try.prog f args W fun e w' => e = .returned x ∧ Below W.heap.size W w') (hb : Below w.heap.size w W) : Calls Try.prog f args W fun e w' => e = .returned x ∧ Below w.heap.size w w' :=
  h.mono fun _ _ ⟨h1, h3⟩ => ⟨h1, hb.trans (h3.mono hb.size)⟩
theorem fst_take {l : List Th} {k : Nat} {a b : Int} (h : l[k]? = some (a, b)) : (l.take (k + 1)).map Prod.fst = (l.take k).map Prod.fst ++ [a] := by rw [take_at l k _ h, List.map_append]; rfl
theorem snd_take {l : List Th} {k : Nat} {a b : Int} (h : l[k]? = some (a, b)) : (l.take (k + 1)).map Prod.snd = (l.take k).map Prod.snd ++ [b] := by rw [take_at l k _ h, List.map_append]; rfl
/-- Two maps stored into, one behind the other. -/
theorem maps_two {w W : World} {g e : Nat} {ls ms : List Int} (hW : Below w.heap.size w W) (hb : g ≠ e) (h1 : MapN w g ls) (h2 : MapN w e ms) (a b : Int) (ha : Ix64 a) (hb' : Ix64 b) (n1 : ls.length < 1000000) (n2 : ms.length < 1000000) :
    ∃ wa wb, (Instr.mapUpdate 57 (.map (some g)) (.int .i64 a) (.bool true)).run Try.prog W = .ok () wa ∧ (Instr.mapUpdate 57 (.map (some e)) (.int .i64 b) (.bool true)).run Try.prog wa = .ok () wb ∧
      MapN wb g (ls ++ [a]) ∧ MapN wb e (ms ++ [b]) ∧ w.heap.size ≤ wa.heap.size ∧ wa.heap.size ≤ wb.heap.size ∧ (∀ k, k < w.heap.size → k ≠ g → wa.heap[k]? = w.heap[k]?) ∧ (∀ base, base ≤ w.heap.size → base ≤ g → base ≤ e → Below base w wb) := by
  obtain ⟨wa, r1, m1, g1⟩ := (h1.below hW).update a ha (by omega)
  obtain ⟨wb, r2, m2, g2⟩ := ((h2.below hW).kept g1 (fun h => hb (Option.some.inj h).symm)).update b hb' (by omega)
  have sz := hW.size
  refine ⟨wa, wb, r1, r2, m1.kept g2 (fun h => hb (Option.some.inj h)), m2, Nat.le_trans sz g1.size, g2.size, fun k hk hne => (g1.block k (Nat.lt_of_lt_of_le hk sz) (fun h => hne (Option.some.inj h))).trans (hW.block k hk), fun base hba hg he => ?_⟩
  exact ((hW.mono hba).grown g1 (by omega) (fun j hj => by cases hj; exact hg)).grown g2 (by have := g1.size; omega) (fun j hj => by cases hj; exact he)
end Go.Proofs.Ytkballjadkhepaa
