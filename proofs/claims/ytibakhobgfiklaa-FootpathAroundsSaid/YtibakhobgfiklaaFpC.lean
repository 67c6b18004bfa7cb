/-
  closure: what the call answers. Condition: valid lists of at most 4096 footpaths, at most 64 stops.
-/
import Derived.Test.YtibakhobgfiklaaFpB
namespace Go.Proofs.Ytibakhobgfiklaa
open Go.RowKit Go.Sort

/-- The closure of footpaths between so many stops. -/
def cloE (st : Int) (l : List Fp) : List Fp := cloC (tmE st.toNat (edF false l)) (tmE st.toNat (edF true l)) st.toNat
theorem clo_e {st : Int} {l : List Fp} (hok : OkP st.toNat l) (hst : st ≤ 64) {r : List Fp} (hr : StbS (wkC st.toNat (tmE st.toNat (edF true l)) true ++ wkC st.toNat (tmE st.toNat (edF false l)) false) r) : cpF likeE r = cloE st l :=
  clo_is (tm_spec (ed_inn hok) (by omega)) (tm_spec (ed_inn hok) (by omega)) hr
theorem two_cells {w : World} {va vb : Value} {T : TypeId} : (w.alloc (.cells #[va, vb] T (0, 0))).cell? ⟨w.heap.size, 0, none⟩ = some va ∧ (w.alloc (.cells #[va, vb] T (0, 0))).cell? ⟨w.heap.size, 1, none⟩ = some vb := by
  have c7 := heap_alloc_new w (.cells #[va, vb] T (0, 0))
  exact ⟨by rw [cell_of_row _ _ 0 _ _ _ c7]; rfl, by rw [cell_of_row _ _ 1 _ _ _ c7]; rfl⟩
set_option maxRecDepth 100000 in
set_option maxHeartbeats 2000000 in
theorem closure_any (v : Value) (l : List Fp) (hl : l.length ≤ 4096) (st : Int) (hst : st ≤ 64) (hok : OkP st.toNat l) (w : World) (h : LstF w v l) :
    Calls Try.prog 27 #[v, .int .i64 st] w fun e w' => ∃ v', e = .returned v' ∧ LstF w' v' (cloE st l) ∧ RowKit.Below w.heap.size w w' ∧ (cloE st l).length ≤ 8192 := by
  have hh := h
  obtain ⟨A, c, rfl, -⟩ := hh
  have W1 := Lib.hid (walks_any (.slice A l.length c) l hl st hst hok true w h)
  have W2 := Lib.hid (fun W (hb : RowKit.Below w.heap.size w W) => walks_any (.slice A l.length c) l hl st hst hok false W (h.below hb))
  have CE := Lib.hid (fun r hr => clo_e (r := r) hok hst hr)
  clear h hl hst hok
  obtain ⟨L1, hL1⟩ : ∃ L, wkC st.toNat (tmE st.toNat (edF true l)) true = L := ⟨_, rfl⟩
  obtain ⟨L2, hL2⟩ : ∃ L, wkC st.toNat (tmE st.toNat (edF false l)) false = L := ⟨_, rfl⟩
  rw [hL1] at W1 CE
  rw [hL2] at W2 CE
  clear hL1 hL2
  go_enter Try.func27, Try.ntmps27
  go_wp2_with fail
  refine W1.out.mono ?_
  rintro e w1 ⟨v1, rfl, o1, b1, n1⟩
  obtain ⟨A1, c1, rfl, -⟩ := _root_.id o1
  have O1 := Lib.hid o1
  have B1 := Lib.hid b1
  have W2' := Lib.hid (W2.out w1 b1)
  clear W1 W2 o1 b1
  go_wp2_with fail
  refine W2'.out.mono ?_
  rintro e w2 ⟨v2, rfl, o2, b2, n2⟩
  obtain ⟨A2, c2, rfl, -⟩ := _root_.id o2
  obtain ⟨v1, hv1⟩ : ∃ v, Value.slice A1 L1.length c1 = v := ⟨_, rfl⟩
  obtain ⟨v2, hv2⟩ : ∃ v, Value.slice A2 L2.length c2 = v := ⟨_, rfl⟩
  rw [hv1] at O1
  rw [hv2] at o2
  obtain ⟨m0, m1⟩ := two_cells (w := w2) (va := v1) (vb := v2) (T := 22)
  have ba : RowKit.Below w2.heap.size w2 (w2.alloc (.cells #[v1, v2] 22 (0, 0))) := (RowKit.Below.refl _ _).alloc (Nat.le_refl _) _
  have CC := Lib.hid (concat_any v1 v2 L1 L2 (by omega) (by omega) w2.heap.size _ m0 m1 ((O1.out.below b2).below ba) (o2.below ba))
  have B2 := Lib.hid ((B1.out.trans (b2.mono B1.out.size)).trans (ba.mono (Nat.le_trans B1.out.size b2.size)))
  have N12 : Hid (L1.length ≤ 4096 ∧ L2.length ≤ 4096) := Lib.hid ⟨n1, n2⟩
  rw [← hv1, ← hv2] at CC B2
  clear W2' o2 b2 m0 m1 ba O1 B1 n1 n2 hv1 hv2
  go_wp2_with fail
  refine CC.out.mono ?_
  rintro e w3 ⟨v3, rfl, o3, b3⟩
  have hsz : (w2.alloc (.cells #[.slice A1 L1.length c1, .slice A2 L2.length c2] 22 (0, 0))).heap.size ≤ w3.heap.size := b3.size
  have hll : (L1 ++ L2).length ≤ 8192 := by rw [List.length_append]; have := N12.out; omega
  have SO := Lib.hid (sort_any _ v3 (L1 ++ L2) (by omega) w3 o3 hsz)
  have B3 := Lib.hid b3
  have HLL := Lib.hid hll
  obtain ⟨A3, c3, rfl, -⟩ := ownK_shape o3
  clear CC o3 b3 hsz hll
  generalize hW : w2.alloc (.cells #[.slice A1 L1.length c1, .slice A2 L2.length c2] 22 (0, 0)) = wa at *
  clear hW
  obtain ⟨n0, hn0⟩ : ∃ n0, (L1 ++ L2).length = n0 := ⟨_, rfl⟩
  rw [hn0] at SO ⊢
  go_wp2_with fail
  refine SO.out.mono ?_
  rintro e w4 ⟨rfl, r0, s0, o4, b4⟩
  have l0 : r0.length = (L1 ++ L2).length := s0.perm.length_eq
  have B4 := Lib.hid (B3.out.trans b4)
  have CP := Lib.hid (likeE_any wa.heap.size _ r0 (by have := HLL.out; omega) w4 o4 B4.out.size)
  have E := Lib.hid (CE.out r0 s0)
  have l1 := cpF_len likeE r0
  clear SO o4 b4 B3 s0
  go_wp2_with fail
  refine CP.out.mono ?_
  rintro e w5 ⟨v5, rfl, o5, b5⟩
  have K : Hid (LstF w5 v5 (cloE st l) ∧ RowKit.Below w.heap.size w w5 ∧ (cloE st l).length ≤ 8192) := by
    rw [E.out] at o5 l1
    have hb : w.heap.size ≤ wa.heap.size := B2.out.size
    refine ⟨OwnG.lst o5, B2.out.trans ((B4.out.trans b5).mono hb), ?_⟩
    have := HLL.out
    omega
  clear CP o5 b5
  go_wp2_with fail
  go_ret
  exact ⟨_, rfl, K.out⟩
end Go.Proofs.Ytibakhobgfiklaa
