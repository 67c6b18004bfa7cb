/-
  Chain of package through and of its reference: what the call answers, a list of its own; nothing that existed before the call has changed behind it. Condition: at most 1000000 through services with numbers of 64 bits.
-/
import Derived.Test.YtkballjadkhepaaTmM
import Derived.Test.YtkballjadkhepaaOwnW
namespace Go.Proofs.Ytkballjadkhepaa
open Go.RowKit

/-- The length in a slice's value. -/
def slLen : Value → Nat
  | .slice _ n _ => n
  | _ => 0
/-- A row of one int that the call makes. -/
theorem own_one {w w1 : World} {x : Int} (h : w.alloc (.cells #[.int .i64 x] 3 (0, 0)) = w1) : OwnI w1 w.heap.size (.slice (some ⟨w.heap.size, 0, none⟩) 1 1) [x] := by
  rw [← h]
  exact World.ownsRow_lit w #[.int .i64 x] 1 (Nat.le_refl _) (by unfold maxLen; omega) rfl
/-- A row and a map lie in different blocks. -/
theorem row_map {w : World} {base b : Nat} {v : Value} {l ls : List Int} (h : OwnI w base v l) (hm : MapN w b ls) : v.ownBlock = none ∨ v.ownBlock ≠ some b := by
  obtain ⟨D, ⟨es, clock, hb, -⟩, -⟩ := hm
  rcases h.2 with ⟨rfl, -⟩ | ⟨g, cap, cur, rfl, -, hg, -⟩
  · exact .inl rfl
  · refine .inr fun e => ?_
    obtain rfl : g = b := Option.some.inj e
    rw [hb] at hg
    cases hg
/-- Through services with numbers of 64 bits. -/
def Th64 (l : List Th) : Prop := ∀ x ∈ l, Ix64 x.1 ∧ Ix64 x.2
theorem Th64.nx {l : List Th} (h : Th64 l) {t y : Int} (hn : nxT t l = some y) : Ix64 y := (h _ (nx_mem hn)).2
theorem Th64.take {l : List Th} (h : Th64 l) (k : Nat) : Th64 (l.take k) := fun x hx => h x (List.mem_of_mem_take hx)
theorem nxV_is {t y : Int} {l : List Th} (h : nxT t l = some y) : nxV t l = y ∧ nxB t l = true := by unfold nxV nxB; rw [h]; exact ⟨rfl, rfl⟩
theorem nxB_no {t : Int} {l : List Th} (h : nxT t l = none) : nxB t l = false := by unfold nxB; rw [h]; rfl
set_option maxRecDepth 100000 in
set_option maxHeartbeats 8000000 in
theorem kchain_any (vl : Value) (l : List Th) (hl : l.length ≤ 1000000) (hs : Th64 l) (t : Int) (ht : Ix64 t) (w : World) (h : LstH w vl l) :
    Calls Try.prog 20 #[vl, .int .i64 t] w fun e w' => ∃ u, e = .returned u ∧ OwnI w' w.heap.size u (chT l t) ∧ Below w.heap.size w w' := by
  obtain ⟨w1, hw1⟩ : ∃ x, w.alloc (.cells #[.int .i64 t] 3 (0, 0)) = x := ⟨_, rfl⟩
  have b1 : Below w.heap.size w w1 := by rw [← hw1]; exact (Below.refl _ _).alloc (Nat.le_refl _) _
  have z1 : w.heap.size < w1.heap.size := by rw [← hw1]; simp
  have b2 : Below w1.heap.size w1 (w1.alloc (.map #[] 0)) := (Below.refl _ _).alloc (Nat.le_refl _) _
  obtain ⟨w3, hrun, M3, g3⟩ := (MapN.made w1).update t ht (by decide)
  have O3 : Hid (OwnI w3 w.heap.size (.slice (some ⟨w.heap.size, 0, none⟩) 1 1) [t]) := ((own_one hw1).below b2).kept g3 (.inr (fun e => by have := Option.some.inj e; simp at this; omega))
  have B3 : Hid (Below w.heap.size w w3) := (b1.trans (b2.mono b1.size)).grown g3 (Nat.le_trans b1.size b2.size) (fun j hj => by cases hj; exact b1.size)
  have MM : Hid (MapN w3 w1.heap.size [t]) := M3
  have H := Lib.hid h
  have Z1 := Lib.hid z1
  have HS := Lib.hid hs
  have C3 := Lib.hid (knx_any vl l hl t w3 (h.below B3.out))
  have hmm := @run_makeMap Try.prog
  obtain ⟨A, cn, rfl, -, -, -⟩ := h
  obtain ⟨q, hq⟩ : ∃ q, chT l t = q := ⟨_, rfl⟩
  rw [hq]
  have ST : Hid (ChS l q [t] t l.length) := by rw [← hq]; exact ChS.start l t
  clear hq b1 b2 z1 M3 g3 hs
  go_enter Try.func20, Try.ntmps20
  go_wp2_with fail
  go_step3
  go_wp2_with fail
  go_step3
  go_wp2_with fail
  refine C3.out.mono ?_
  rintro e w4 ⟨rfl, b4⟩
  have O4 := Lib.hid (OwnI.below O3.out b4)
  have M4 := Lib.hid (MM.out.below b4)
  have B4 : Hid (Below w.heap.size w w4) := B3.out.trans (b4.mono B3.out.size)
  clear b4 C3 O3 MM B3 hrun hmm
  generalize hx0 : nxV t l = x0
  generalize hy0 : nxB t l = y0
  have HX := Lib.hid hx0
  have HY := Lib.hid hy0
  clear hx0 hy0
  go_wp2_with fail
  go_loopw [5, 7, 8] (fun v x o wr => ∃ (out : List Int) (t : Int) (n : Nat) (y : Int) (r : Bool), x = .int .i64 y ∧ o = .bool r ∧ Hid (ChS l q out t n) ∧ Hid (nxV t l = y) ∧ Hid (nxB t l = r) ∧ Hid (OwnI wr w.heap.size v out) ∧ Hid (MapN wr w1.heap.size out) ∧ Hid (Below w.heap.size w wr)) (fun v _ _ _ => l.length + 2 - slLen v)
  case atStart => exact ⟨[t], t, l.length, x0, y0, rfl, rfl, ST, HX, HY, O4, M4, B4⟩
  case round =>
    clear ST HX HY O4 M4 B4
    obtain ⟨out, t, n, y, r, rfl, rfl, HC, HX, HY, HO, HM, HB⟩ := hrel
    obtain ⟨A', c', rfl⟩ := own_shape' HO.out
    have hle := HC.out.le
    cases hn : nxT t l with
    | none =>
      obtain rfl : false = r := (nxB_no hn).symm.trans HY.out
      have R := Lib.hid (HC.out.stop hn)
      clear hn HX HY HM HC
      go_wp2_with fail
      rw [Exit.noGoto_ret]
      go_ret
      exact ⟨_, rfl, by rw [R.out]; exact HO.out, HB.out⟩
    | some z =>
      obtain rfl : true = r := (nxV_is hn).2.symm.trans HY.out
      obtain rfl : z = y := (nxV_is hn).1.symm.trans HX.out
      have zx := HS.out.nx hn
      have lk := HM.out.look z zx
      by_cases hz : z ∈ out
      · rw [decide_eq_true hz] at lk
        have R := Lib.hid (HC.out.used hn hz)
        clear hn HX HY HM HC hz
        go_wp2_with fail
        rw [Exit.noGoto_ret]
        go_ret
        exact ⟨_, rfl, by rw [R.out]; exact HO.out, HB.out⟩
      · rw [decide_eq_false hz] at lk
        have HC2 := Lib.hid (HC.out.step hn hz)
        have hlt : out.length + 1 ≤ l.length + 1 := by have := HC2.out.le; rw [List.length_append, List.length_singleton] at this; exact this
        obtain ⟨w5, hrun, m5, g5⟩ := HM.out.update z zx (by omega)
        have O5 := Lib.hid (HO.out.kept g5 (row_map HO.out HM.out))
        have B5 : Hid (Below w.heap.size w w5) := HB.out.grown g5 HB.out.size (fun j hj => by cases hj; exact Nat.le_of_lt Z1.out)
        obtain ⟨w6, hw6⟩ : ∃ x, w5.alloc (.cells #[.int .i64 z] 3 (0, 0)) = x := ⟨_, rfl⟩
        have b6 : Below w5.heap.size w5 w6 := by rw [← hw6]; exact (Below.refl _ _).alloc (Nat.le_refl _) _
        have h6 : w6.heap[w5.heap.size]? = some (.cells #[.int .i64 z] 3 (0, 0)) := by rw [← hw6]; exact heap_alloc_new _ _
        have O6 : Hid (OwnI w6 w.heap.size (.slice A' out.length c') out) := OwnI.below O5.out b6
        have M6 := Lib.hid (m5.below b6)
        have B6 : Hid (Below w.heap.size w w6) := B5.out.trans (b6.mono B5.out.size)
        clear hn HX HY HM HC hz HO HB O5 B5 m5 g5 b6 zx
        go_wp2_with (at_builtin; refine app_intW _ rfl (.tmp 32) (.tmp 34) rfl w.heap.size (.slice A' out.length c') out z rfl O6.out w5.heap.size _ h6 rfl rfl B6.out.size (by omega) ?_; intro v7 w7 o7 g7 wh7; clear wh7; refine Hid.out ?_)
        have M7 := Lib.hid (M6.out.kept g7 (by rcases row_map O6.out M6.out with h | h; rw [h]; simp; exact fun e => h e.symm))
        have B7 : Hid (Below w.heap.size w w7) := B6.out.grown g7 B6.out.size (fun j hj => (World.ownsRow.lt O6.out j hj).1)
        have O7 := Lib.hid o7
        obtain ⟨A7, c7, e7⟩ := own_shape' o7
        rw [List.length_append, List.length_singleton] at e7
        subst e7
        have C7 := Lib.hid (knx_any (.slice A l.length cn) l hl z w7 (H.out.below B7.out))
        clear o7 g7 M6 O6 B6 h6 lk hrun hw6
        refine Lib.hid ?_
        go_wp2_with fail
        refine C7.out.mono ?_
        rintro e w8 ⟨rfl, b8⟩
        have O8 := Lib.hid (OwnI.below O7.out b8)
        have M8 := Lib.hid (M7.out.below b8)
        have B8 : Hid (Below w.heap.size w w8) := B7.out.trans (b8.mono B7.out.size)
        clear b8 C7 O7 M7 B7
        generalize hx8 : nxV z l = x8
        generalize hy8 : nxB z l = y8
        have HX := Lib.hid hx8
        have HY := Lib.hid hy8
        clear hx8 hy8
        go_wp2_with fail
        go_roundw
        case rel => exact ⟨_, z, n - 1, x8, y8, rfl, rfl, HC2, HX, HY, O8, M8, B8⟩
        case measure => simp only [slLen]; first | exact hmeas | (simp; omega) | omega
set_option maxRecDepth 100000 in
set_option maxHeartbeats 8000000 in
theorem rchain_any (vl : Value) (l : List Th) (hl : l.length ≤ 900000) (t : Int) (w : World) (h : LstH w vl l) :
    Calls Try.prog 21 #[vl, .int .i64 t] w fun e w' => ∃ u, e = .returned u ∧ OwnI w' w.heap.size u (chT l t) ∧ Below w.heap.size w w' := by
  obtain ⟨w1, hw1⟩ : ∃ x, w.alloc (.cells #[.int .i64 t] 3 (0, 0)) = x := ⟨_, rfl⟩
  have B1 : Hid (Below w.heap.size w w1) := by rw [← hw1]; exact (Below.refl _ _).alloc (Nat.le_refl _) _
  have O1 := Lib.hid (own_one hw1)
  have H := Lib.hid h
  obtain ⟨A, cn, rfl, -, -, -⟩ := h
  obtain ⟨q, hq⟩ : ∃ q, chT l t = q := ⟨_, rfl⟩
  rw [hq]
  have ST : Hid (ChS l q [t] t l.length) := by rw [← hq]; exact ChS.start l t
  clear hq
  go_enter Try.func21, Try.ntmps21
  go_wp2_with fail
  go_loopw [5, 12] (fun v i wr => ∃ (out : List Int) (t : Int) (n k : Nat), i = .int .i64 k ∧ k + n = l.length ∧ Hid (ChS l q out t n) ∧ Hid (OwnI wr w.heap.size v out) ∧ Hid (Below w.heap.size w wr)) (fun _ i _ => l.length - (intOf i).toNat)
  case atStart => exact ⟨[t], t, l.length, 0, rfl, by omega, ST, O1, B1⟩
  case round =>
    clear ST O1 B1 hw1
    obtain ⟨out, t, n, k, rfl, hk, HC, HO, HB⟩ := hrel
    obtain ⟨A', c', rfl⟩ := own_shape' HO.out
    have hle := HC.out.le
    have hpos := HC.out.pos
    by_cases hlt : k < l.length
    · have gk : (k : Int) < (l.length : Int) := by omega
      have HK := Lib.hid hk
      have hla := HC.out.last
      obtain ⟨c, hc⟩ : ∃ c, out.length - 1 = c := ⟨_, rfl⟩
      rw [hc] at hla
      obtain ⟨g, o, rfl, hg, m0⟩ := int_cell (OwnI.lst HO.out) hla
      have e1 : (out.length : Int) - 1 = (c : Int) := by omega
      have cn' : (c : Int) < (out.length : Int) := by omega
      have cle : c ≤ 1000001 := by omega
      have wk : IntKind.i64.wrap (c : Int) = (c : Int) := IntWalk.i64_in _ (by omega)
      have C1 := Lib.hid (rnx_any (.slice A l.length cn) l (by omega) t wr (H.out.below HB.out))
      clear hla hc hg hk
      cases hn : nxT t l with
      | none =>
        have R := Lib.hid (HC.out.stop hn)
        rw [nxB_no hn] at C1
        generalize nxV t l = x0 at C1
        clear hn HC
        go_wp2_with fail
        refine C1.out.mono ?_
        rintro e w' ⟨rfl, rfl⟩
        clear C1
        go_wp2_with fail
        go_ret
        exact ⟨_, rfl, by rw [R.out]; exact HO.out, HB.out⟩
      | some z =>
        rw [(nxV_is hn).1, (nxV_is hn).2] at C1
        have D1 := Lib.hid (rhas_any _ out (by omega) z wr (OwnI.lst HO.out))
        by_cases hz : z ∈ out
        · have R := Lib.hid (HC.out.used hn hz)
          rw [decide_eq_true hz] at D1
          clear hn HC hz
          go_wp2_with fail
          refine C1.out.mono ?_
          rintro e w' ⟨rfl, rfl⟩
          clear C1
          go_wp2_with fail
          refine D1.out.mono ?_
          rintro e w' ⟨rfl, rfl⟩
          clear D1
          go_wp2_with fail
          go_ret
          exact ⟨_, rfl, by rw [R.out]; exact HO.out, HB.out⟩
        · rw [decide_eq_false hz] at D1
          have HC2 := Lib.hid (HC.out.step hn hz)
          have hn1 := HC.out.room hn hz
          have hlo : out.length + 1 ≤ l.length + 1 := by have := HC2.out.le; rw [List.length_append, List.length_singleton] at this; exact this
          obtain ⟨w6, hw6⟩ : ∃ x, wr.alloc (.cells #[.int .i64 z] 3 (0, 0)) = x := ⟨_, rfl⟩
          have b6 : Below wr.heap.size wr w6 := by rw [← hw6]; exact (Below.refl _ _).alloc (Nat.le_refl _) _
          have h6 : w6.heap[wr.heap.size]? = some (.cells #[.int .i64 z] 3 (0, 0)) := by rw [← hw6]; exact heap_alloc_new _ _
          have O6 : Hid (OwnI w6 w.heap.size (.slice (some ⟨g, o, none⟩) out.length c') out) := OwnI.below HO.out b6
          have B6 : Hid (Below w.heap.size w w6) := HB.out.trans (b6.mono HB.out.size)
          clear hn HC hz HO HB b6
          go_wp2_with fail
          refine C1.out.mono ?_
          rintro e w' ⟨rfl, rfl⟩
          clear C1
          go_wp2_with fail
          refine D1.out.mono ?_
          rintro e w' ⟨rfl, rfl⟩
          clear D1
          go_wp2_with (at_builtin; refine app_intW _ rfl (.tmp 32) (.tmp 34) rfl w.heap.size (.slice (some ⟨g, o, none⟩) out.length c') out z rfl O6.out wr.heap.size _ h6 rfl rfl B6.out.size (by omega) ?_; intro v7 w7 o7 g7 wh7; clear wh7; refine Hid.out ?_)
          have B7 : Hid (Below w.heap.size w w7) := B6.out.grown g7 B6.out.size (fun j hj => (World.ownsRow.lt O6.out j hj).1)
          have O7 := Lib.hid o7
          clear o7 g7 O6 B6 h6 hw6 m0
          refine Lib.hid ?_
          go_wp2_with fail
          go_roundw
          case rel => exact ⟨_, z, n - 1, k + 1, by go_num, by have := HK.out; omega, HC2, O7, B7⟩
          case measure => simp [intOf]; omega
    · have d : decide (k < l.length) = false := by rw [decide_eq_false_iff_not]; exact hlt
      obtain rfl : n = 0 := by omega
      have R := Lib.hid HC.out.full
      clear hlt HC
      go_wp2_with fail
      go_ret
      exact ⟨_, rfl, by rw [R.out]; exact HO.out, HB.out⟩
end Go.Proofs.Ytkballjadkhepaa
