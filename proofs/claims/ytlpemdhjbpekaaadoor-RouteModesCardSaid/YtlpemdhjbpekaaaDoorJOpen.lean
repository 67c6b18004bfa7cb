/-
  The slices of routes among the arguments of this package's laws; from the rows' condition that the listed tables read as listed to what the walks ask. Condition: none beyond each theorem's own hypotheses.
-/
import Derived.Test.YtlpemdhjbpekaaaDoorJLaw2
import Derived.Deep.Strs
import Derived.Lib.SmallJoins
import Derived.Stop.LaidErr
namespace Go.Proofs.YtlpemdhjbpekaaaDoor
open Go.RowKit Go.ChangeShapes Go.WideShapes Go.Deep

theorem trod_route {H : Type} {enc : TypeId × Value → H} {W : World} {n : Nat} {cs : List Value} {x : DataW H × List MemPlace} (h : DataW.trod enc Tryd.prog W 0 (fun _ => true) true n 50 cs = some x) : ∃ a : Rt, (-9223372036854775808 ≤ a.2.1 ∧ a.2.1 ≤ 9223372036854775807) ∧ cs = re a := by
  obtain ⟨y0, y1, y2, n, _, hl, h0, h1, h2⟩ := trod_struct3 Tryd.underlying50 h
  rw [show Tryd.prog.cellsOf 50 = 3 by kernel_rfl] at hl
  match cs, hl with
  | [c0, c1, c2], _ =>
    simp only [show Tryd.prog.cellsOf 9 = 1 by kernel_rfl, show Tryd.prog.cellsOf 3 = 1 by kernel_rfl, show Tryd.prog.cellsOf 4 = 1 by kernel_rfl] at h0 h1 h2
    obtain ⟨s, e0, -⟩ := DataW.trod_string Tryd.underlying9 h0
    obtain ⟨z, e1, _, w1⟩ := DataW.trod_int Tryd.underlying3 h1
    obtain ⟨f, e2, -⟩ := DataW.trod_bool Tryd.underlying4 h2
    simp at e0 e1 e2
    subst e0 e1 e2
    refine ⟨(s.data.toList, z, f), ⟨int_low w1, int_top w1⟩, ?_⟩
    unfold re
    rw [str_list]
instance : Inhabited Rt := ⟨([], 0, false)⟩
theorem open_list_Route {H : Type} {enc : TypeId × Value → H} {W : World} {base : Nat} {v : Value} {d : DataW H} {ps : List MemPlace} (hval : Value.okWide Tryd.prog W .any base 22 v)
    (h : DataW.Trod enc Tryd.prog W 0 (fun _ => true) true 22 v d ps) : ∃ l : List Rt, LstR W v l ∧ l.length ≤ 9223372036854775807 ∧ (∀ x ∈ ps, x.block < W.heap.size) ∧ OkR l :=
  open_listG (by decide) re_len Tryd.underlying22 (by kernel_rfl) (fun _ _ _ h => by obtain ⟨a, h1, rfl⟩ := trod_route h; exact ⟨a, h1, rfl⟩) hval h

/-! ### The tables -/
theorem mapM_split {α β : Type} {f : α → Option β} : ∀ {l : List α} {r : List β}, l.mapM f = some r → ∀ (i : Nat) (a : α), l[i]? = some a → ∃ b, r[i]? = some b ∧ f a = some b := fun h i a ha => Lib.mapM_at h i a ha
/-- An array of strings that reads as listed holds those strings, cell for cell. -/
theorem cells_of_strs {H : Type} {enc : TypeId × Value → H} {W : World} {base : Nat} {sp : Nat → Bool} {held : Bool} {fuel : Nat} {t e : TypeId} {n : Nat} {cs : List Value} {ls : List (List UInt8)} {p : List MemPlace}
    (ht : Tryd.prog.underlying t = some (.array n e)) (he : Tryd.prog.underlying e = some .string) (hce : Tryd.prog.cellsOf e = 1) (hct : Tryd.prog.cellsOf t = n)
    (h : DataW.trod enc Tryd.prog W base sp held fuel t cs = some (.agg (ls.map fun l => (.lit (.string l) : DataW H)), p)) : cs = ls.map fun l => Value.string (str l) := by
  cases fuel with
  | zero => simp [DataW.trod] at h
  | succ fuel =>
    simp only [DataW.trod, ht, hce, hct, Nat.mul_one] at h
    split at h
    · next hl =>
      obtain ⟨xs, hm, hx⟩ := Option.map_eq_some_iff.1 h
      have hxs : xs.map (·.1) = ls.map fun l => (DataW.lit (.string l) : DataW H) := by
        have := congrArg Prod.fst hx
        simpa using this
      have hxl : xs.length = n := by simpa using Lib.mapM_length hm
      have hzl : ls.length = n := by
        have := congrArg List.length hxs
        simp at this
        omega
      apply List.ext_getElem?
      intro i
      by_cases hi : i < n
      · obtain ⟨b, hb, hf⟩ := mapM_split hm i i (by simp [hi])
        obtain ⟨s, hc, rfl, -⟩ := DataW.trod_string he hf
        have h1 : cs[i]? = some (.string s) := by
          have := congrArg (·[0]?) hc
          simpa [List.getElem?_take, List.getElem?_drop] using this
        have h2 : (xs.map (·.1))[i]? = some (DataW.lit (.string s.data.toList) : DataW H) := by simp [hb]
        rw [hxs] at h2
        simp only [List.getElem?_map, Option.map_eq_some_iff, DataW.lit.injEq, Lit.string.injEq] at h2
        obtain ⟨l, hl2, rfl⟩ := h2
        simp [h1, hl2, str_list]
      · rw [List.getElem?_eq_none (by omega), List.getElem?_eq_none (by simp; omega)]
    · cases h
theorem names_of_laid {W : World} (h : laidMet Tryd.prog [("transit/route.names", Rows.laid_transit_route_names)] W) : W.var? Tryd.prog "transit/route.names" = some nmV := by
  obtain ⟨ps, ⟨g', t', cs, fuel, p, q, hg', ht', hvar, hd, _, _⟩, _⟩ := h
  obtain rfl := Option.some.inj (gNames.symm.trans hg')
  obtain rfl := Option.some.inj ((show (Tryd.prog.globals[0]?).map (·.type) = some 55 by kernel_rfl).symm.trans ht')
  have e := cells_of_strs (ls := nmL) Tryd.underlying55 Tryd.underlying9 (by kernel_rfl) (by kernel_rfl) hd
  rw [hvar, show cs = nmV from Array.toList_inj.1 (by rw [e]; rfl)]
theorem good_of_laid {W : World} (h : laidMet Tryd.prog [("math/bits.deBruijn64tab", Rows.laid_math_bits_deBruijn64tab), ("transit/route.names", Rows.laid_transit_route_names)] W) : GoodR W :=
  ⟨Lib.tabIs_of_head (k := .u8) (zs := tab64) (rest := [("transit/route.names", Rows.laid_transit_route_names)]) (t := 78) (e := 5) (n := 64) gTab (by kernel_rfl) (by kernel_rfl) (by kernel_rfl) (by kernel_rfl) (by kernel_rfl) h, names_of_laid h.tail⟩
end Go.Proofs.YtlpemdhjbpekaaaDoor
