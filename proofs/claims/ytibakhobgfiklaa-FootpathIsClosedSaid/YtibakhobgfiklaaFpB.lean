/-
  walks: for each two stops the shortest walk as one footpath: what the call answers; closure. Condition: valid lists of at most 4096 footpaths, at most 64 stops.
-/
import Derived.Test.YtibakhobgfiklaaFpA
namespace Go.Proofs.Ytibakhobgfiklaa
open Go.RowKit Go.Sort

theorem chkE_valid {n : Nat} {x : Fp} (h : (0 ≤ x.1 ∧ x.1 < (n : Int)) ∧ (0 ≤ x.2.1 ∧ x.2.1 < (n : Int)) ∧ x.1 ≠ x.2.1 ∧ 1 ≤ x.2.2.1 ∧ x.2.2.1 ≤ 14400) : chkE (n : Int) (er3 x) = 0 := by
  unfold chkE er3
  rw [if_neg (by simp only; omega), if_neg (by simp only; omega)]
theorem chkL_valid {n : Nat} : ∀ {r : List Fp}, (∀ x ∈ r, (0 ≤ x.1 ∧ x.1 < (n : Int)) ∧ (0 ≤ x.2.1 ∧ x.2.1 < (n : Int)) ∧ x.1 ≠ x.2.1 ∧ 1 ≤ x.2.2.1 ∧ x.2.2.1 ≤ 14400) → chkL (n : Int) (r.map er3) = 0
  | [], _ => rfl
  | x :: r, h => by
    show (if chkE (n : Int) (er3 x) = 0 then chkL (n : Int) (r.map er3) else _) = 0
    rw [if_pos (chkE_valid (h x List.mem_cons_self))]
    exact chkL_valid (fun y hy => h y (List.mem_cons_of_mem _ hy))
/-- The lengths that All hands back. -/
theorem ans_valid {sf : Bool} {l r : List Fp} {st : Int} (h : EdgS sf l r) (hl : OkP st.toNat l) (hm : l.length ≤ 4096) (hst : st ≤ 64) : (0 ≤ st ∧ ansA st (r.map er3) = (List.range st.toNat).map (distL st.toNat (r.map edP))) ∨ (st < 0 ∧ ansA st (r.map er3) = []) := by
  by_cases h0 : 0 ≤ st
  · obtain ⟨n, rfl⟩ : ∃ n : Nat, st = (n : Int) := ⟨st.toNat, by omega⟩
    refine .inl ⟨h0, ?_⟩
    have hr : chkR (n : Int) (r.map er3) = 0 := by
      unfold chkR
      rw [if_neg (by omega), if_neg (by rw [List.length_map]; have := h.len; omega)]
      exact chkL_valid (fun x hx => hl x (h.mem hx).1)
    unfold ansA
    rw [if_pos hr]
    have : (r.map er3).map dnE = r.map edP := by rw [List.map_map]; rfl
    rw [this]
  · refine .inr ⟨by omega, ansA_bad ?_⟩
    unfold chkR
    rw [if_pos (.inl (by omega))]
    decide
/-- The walks off what All hands back. -/
theorem wk_ans {sf : Bool} {l r : List Fp} {st : Int} (h : EdgS sf l r) (hl : OkP st.toNat l) (hm : l.length ≤ 4096) (hst : st ≤ 64) : wkM (ansA st (r.map er3)) sf (ansA st (r.map er3)).length = wkC st.toNat (tmE st.toNat (edF sf l)) sf ∧ (ansA st (r.map er3)).length ≤ 64 ∧ ∀ (a : Nat) row, (ansA st (r.map er3))[a]? = some row → row.length ≤ 64 := by
  rcases ans_valid h hl hm hst with ⟨h0, e⟩ | ⟨h0, e⟩
  · rw [e]
    refine ⟨?_, by rw [List.length_map, List.length_range]; omega, fun a row ha => ?_⟩
    · rw [List.length_map, List.length_range]
      exact wk_is h hl (by omega)
    · rw [List.getElem?_map] at ha
      obtain ⟨b, -, rfl⟩ := Option.map_eq_some_iff.1 ha
      rw [distL_length]
      omega
  · rw [e]
    refine ⟨?_, by simp, fun a row ha => by simp at ha⟩
    rw [show st.toNat = 0 by omega]
    rfl
set_option maxRecDepth 100000 in
set_option maxHeartbeats 2000000 in
theorem walks_any (v : Value) (l : List Fp) (hl : l.length ≤ 4096) (st : Int) (hst : st ≤ 64) (hok : OkP st.toNat l) (sf : Bool) (w : World) (h : LstF w v l) :
    Calls Try.prog 36 #[v, .int .i64 st, .bool sf] w fun e w' => ∃ v', e = .returned v' ∧ LstF w' v' (wkC st.toNat (tmE st.toNat (edF sf l)) sf) ∧ RowKit.Below w.heap.size w w' ∧ (wkC st.toNat (tmE st.toNat (edF sf l)) sf).length ≤ 4096 := by
  have hh := h
  obtain ⟨A, c, rfl, -⟩ := hh
  have EG := Lib.hid (edges_any (.slice A l.length c) l (by omega) sf w h)
  have HL := Lib.hid (And.intro hl (And.intro hst hok))
  clear h hl hst hok
  go_enter Try.func36, Try.ntmps36
  go_wp2_with fail
  refine EG.out.mono ?_
  rintro e w1 ⟨v1, r, rfl, hr, o1, b1⟩
  have hrl := hr.len
  have KA := Lib.hid (kall_any st v1 (r.map er3) (by rw [List.length_map]; have := HL.out.1; omega) w1 o1)
  have WK := Lib.hid (wk_ans hr HL.out.2.2 HL.out.1 HL.out.2.1)
  have B1 := Lib.hid b1
  obtain ⟨A1, c1, rfl, -⟩ := _root_.id o1
  rw [List.length_map] at KA
  rw [List.length_map]
  obtain ⟨M, hM⟩ : ∃ M, ansA st (r.map er3) = M := ⟨_, rfl⟩
  rw [hM] at KA WK
  obtain ⟨er0, her⟩ : ∃ q, chkR st (r.map er3) = q := ⟨_, rfl⟩
  rw [her] at KA
  clear EG hr o1 b1 hM her hrl
  go_wp2_with fail
  refine KA.out.mono ?_
  rintro e w2 ⟨u, rfl, ll, b2⟩
  have LLH := Lib.hid ll
  have B2 := Lib.hid (B1.out.trans (b2.mono B1.out.size))
  obtain ⟨A2, c2, rfl⟩ := ll.len
  have hML : M.length ≤ 64 := WK.out.2.1
  have WL := Lib.hid (fun k => wkM_len M sf 64 WK.out.2.2 k)
  clear KA ll b2 B1
  go_wp2_with fail
  go_loopw [7, 24] (fun u i wr => ∃ k : Nat, i = .int .i64 (k : Int) ∧ k ≤ M.length ∧ Hid (OwnF wr w2.heap.size u (wkM M sf k)) ∧ Hid (RowKit.Below w2.heap.size w2 wr)) (fun _ i _ => M.length - (intOf i).toNat)
  case atStart => exact ⟨0, rfl, Nat.zero_le _, Lib.hid (OwnG.nil _ _ _ _ _), Lib.hid (RowKit.Below.refl _ _)⟩
  case round =>
    obtain ⟨k, rfl, hk, HO, HB⟩ := hrel
    by_cases hlt : k < M.length
    · obtain ⟨row, hrow⟩ := at_lt hlt
      obtain ⟨-, b, o, t, rfl, hb, m00, lr⟩ := LLH.out.at hrow
      have m0 := (HB.out.cell (p := ⟨b, o + k, none⟩) hb).trans m00
      have hrl : row.length ≤ 64 := WK.out.2.2 k row hrow
      have LR := Lib.hid lr
      obtain ⟨A3, c3, hv, -⟩ := _root_.id lr
      rw [hv] at m0 LR
      have gk : (k : Int) < (M.length : Int) := by omega
      have NX := Lib.hid (wkM_next (sf := sf) hrow)
      have HZ : Hid (w2.heap.size ≤ wr.heap.size) := HB.out.size
      have WLk : Hid ((wkM M sf k).length ≤ 4096) := by
        have := WL.out k
        have h2 : k * 64 ≤ 64 * 64 := Nat.mul_le_mul_right _ (by omega)
        show _ ≤ _
        omega
      have B0 : Hid (OwnF wr w2.heap.size u7 (wkM M sf k ++ wkR sf k row 0)) := by
        show OwnG _ _ _ _ _ _ _
        have : wkR sf k row 0 = [] := rfl
        rw [this, List.append_nil]
        exact HO.out
      clear hrow hb lr HO m00 hv
      go_wp2_with fail
      go_loopw [7, 31] (fun u j wx => ∃ q : Nat, j = .int .i64 (q : Int) ∧ q ≤ row.length ∧ Hid (OwnF wx w2.heap.size u (wkM M sf k ++ wkR sf k row q)) ∧ Hid (RowKit.Below w2.heap.size w2 wx)) (fun _ j _ => row.length - (intOf j).toNat)
      case atStart => exact ⟨0, rfl, Nat.zero_le _, B0, HB⟩
      case round =>
        clear B0 HB HZ m0
        obtain ⟨q, rfl, hq, HO, HB⟩ := hrel
        by_cases hqlt : q < row.length
        · obtain ⟨s, hs⟩ := at_lt hqlt
          obtain ⟨b', o', rfl, hb, n0⟩ := int_cell (LR.out.below HB.out) hs
          have gq : (q : Int) < (row.length : Int) := by omega
          have NR := wkR_next (sf := sf) (i := k) hs
          have IW := Lib.hid (fun W => iswalk_any s W)
          have hz := HB.out.size
          by_cases hw : 1 ≤ s ∧ s ≤ 14400
          · rw [if_pos hw] at NR
            rw [decide_eq_true hw] at IW
            have NRH := Lib.hid NR
            have hll : (wkM M sf k ++ wkR sf k row q).length ≤ 8192 := by
              have := WLk.out
              have := wkR_len sf k row q
              rw [List.length_append]
              omega
            clear hs hb NR hw
            go_wp2_with fail
            refine (IW.out _).mono ?_
            rintro e w' ⟨rfl, rfl⟩
            go_wp2_with (at_builtin; refine appG_one fe_len fe_one (by decide) Try.underlying22 info_fp rfl (by decide) _ rfl (.tmp 38) (.tmp 44) rfl w2.heap.size _ (wkM M sf k ++ wkR sf k row q) ((k : Int), (q : Int), s, sf) rfl (World.ownsRow.alloc HO.out _) wr.heap.size _ (heap_alloc_new _ _) rfl rfl (by simp; omega) (by omega) ?_; intro u2 w10 own10 b10 _ _; refine Hid.out ?_)
            refine Lib.hid ?_
            have O10 : Hid (OwnF w10 w2.heap.size u2 (wkM M sf k ++ wkR sf k row (q + 1))) := by
              show OwnG _ _ _ _ _ _ _
              rw [NRH.out, ← List.append_assoc]
              exact own10
            have ba : RowKit.Below wr.heap.size wr (wr.alloc (boxF (k : Int) (q : Int) s sf)) := (RowKit.Below.refl _ _).alloc (Nat.le_refl _) _
            have B10 := Lib.hid ((HB.out.alloc hz _).trans b10)
            clear own10 b10 HO HB IW NRH hll n0 hz
            go_wp2_with fail
            go_roundw
            case rel => exact ⟨q + 1, by go_num, by omega, O10, B10⟩
            case measure => simp [intOf]; omega
          · rw [if_neg hw, List.append_nil] at NR
            rw [decide_eq_false hw] at IW
            have O10 : Hid (OwnF wr w2.heap.size u7 (wkM M sf k ++ wkR sf k row (q + 1))) := by
              show OwnG _ _ _ _ _ _ _
              rw [NR]
              exact HO.out
            clear hs hb NR hw HO
            go_wp2_with fail
            refine (IW.out _).mono ?_
            rintro e w' ⟨rfl, rfl⟩
            go_wp2_with fail
            go_roundw
            case rel => exact ⟨q + 1, by go_num, by omega, O10, HB⟩
            case measure => simp [intOf]; omega
        · have d : decide (q < row.length) = false := by rw [decide_eq_false_iff_not]; exact hqlt
          have O10 : Hid (OwnF wr w2.heap.size u7 (wkM M sf (k + 1))) := by
            show OwnG _ _ _ _ _ _ _
            rw [NX.out]
            have := HO.out
            rw [show q = row.length by omega] at this
            exact this
          clear hqlt HO
          go_wp2_with fail
          go_roundw
          case rel => exact ⟨k + 1, by go_num, by omega, O10, HB⟩
          case measure => simp [intOf]; omega
    · have d : decide (k < M.length) = false := by rw [decide_eq_false_iff_not]; exact hlt
      have K : Hid (LstF wr u7 (wkC st.toNat (tmE st.toNat (edF sf l)) sf) ∧ RowKit.Below w.heap.size w wr ∧ (wkC st.toNat (tmE st.toNat (edF sf l)) sf).length ≤ 4096) := by
        have h1 := HO.out
        rw [show k = M.length by omega, WK.out.1] at h1
        refine ⟨OwnG.lst h1, B2.out.trans (HB.out.mono B2.out.size), ?_⟩
        have h2 := WL.out M.length
        rw [WK.out.1] at h2
        have h3 : M.length * 64 ≤ 64 * 64 := Nat.mul_le_mul_right _ (by omega)
        omega
      clear hlt HO HB
      go_wp2_with fail
      go_ret
      exact ⟨_, rfl, K.out⟩
end Go.Proofs.Ytibakhobgfiklaa
