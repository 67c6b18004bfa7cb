/-
  The reference's Combine: what the call answers. Condition: lists of at most 1000 spans.
-/
import Derived.Test.YtmlmdggfcdakhaaVRef2
import Derived.Deep.RegionLaw
import Derived.IntWalk
namespace Go.Proofs.Ytmlmdggfcdakhaa
open Go.RowKit

theorem fl_end (a : List Sp) (t : Sp) (y : Int) : (fl sc (a ++ [t])).set (a.length * 2 + 1) (.int .i64 y) = fl sc (a ++ [(t.1, y)]) := by
  have h : (fl sc a).length = a.length * 2 := fl_len sc_len a
  rw [fl_app, fl_app, fl_one, fl_one, List.set_append_right _ _ (by omega), show a.length * 2 + 1 - (fl sc a).length = 1 by omega]
  rfl
theorem own_len1 {T : TypeId} {w : World} {base : Nat} {v : Value} {a : List Sp} {t : Sp} (h : OwnG sc T 2 w base v (a ++ [t])) : w.ownsRow base T 2 v (a.length + 1) (fl sc (a ++ [t])) := by
  unfold OwnG at h
  rw [List.length_append] at h
  exact h
/-- The last span's end is stored. -/
theorem put_end {T : TypeId} {w : World} {base g c : Nat} {a : List Sp} {t : Sp} (h : OwnG sc T 2 w base (.slice (some ⟨g, 0, none⟩) (a.length + 1) c) (a ++ [t])) (y : Int) :
    OwnG sc T 2 (w.setCell ⟨g, a.length * 2 + 1, none⟩ (.int .i64 y)) base (.slice (some ⟨g, 0, none⟩) (a.length + 1) c) (a ++ [(t.1, y)]) := by
  have h0 := own_len1 h
  have h1 := (World.ownsRow.stored h0 (a.length * 2 + 1) (.int .i64 y)).1
  rw [fl_end] at h1
  show World.ownsRow _ base _ 2 _ (a ++ [(t.1, y)]).length (fl sc (a ++ [(t.1, y)]))
  rw [List.length_append]
  exact h1
theorem own_last {T : TypeId} {w : World} {base : Nat} {v : Value} {a : List Sp} {t : Sp} (h : OwnG sc T 2 w base v (a ++ [t])) :
    ∃ g c, v = .slice (some ⟨g, 0, none⟩) (a.length + 1) c ∧ base ≤ g ∧ g < w.heap.size ∧ w.cell? ⟨g, a.length * 2, none⟩ = some (.int .i64 t.1) ∧ w.cell? ⟨g, a.length * 2 + 1, none⟩ = some (.int .i64 t.2) ∧ w.frozen? ⟨g, a.length * 2 + 1, none⟩ = false := by
  rcases h.low with ⟨-, h0⟩ | ⟨g, c, rfl, g0, g1, hc⟩
  · simp at h0
  · have hs : (a ++ [t])[a.length]? = some t := by simp
    have h0 := own_len1 h
    rw [List.length_append] at h0 ⊢
    refine ⟨g, c, rfl, g0, g1, ?_, ?_, World.ownsRow.frozenAt h0 _⟩
    · rw [World.ownsRow.cellAt h0 _ (by simp), ← Nat.add_zero (a.length * 2), fl_at sc_len hs 0 (by omega)]; rfl
    · rw [World.ownsRow.cellAt h0 _ (by simp; omega), fl_at sc_len hs 1 (by omega)]; rfl
/-- A step of Combine's loop. -/
theorem cmb_skip {f : Int → Bool} {e : List Int} {k : Nat} {x y : Int} (hx : e[k]? = some x) (hy : e[k + 1]? = some y) (hf : f x = false) (acc : List Sp) : cmbR f (e.drop k) acc = cmbR f (e.drop (k + 1)) acc := by
  rw [drop_at e k x hx, drop_at e (k + 1) y hy, cmbR_step, hf]; simp
theorem cmb_push {f : Int → Bool} {e : List Int} {k : Nat} {x y : Int} (hx : e[k]? = some x) (hy : e[k + 1]? = some y) (hf : f x = true) (acc : List Sp) : cmbR f (e.drop k) acc = cmbR f (e.drop (k + 1)) (pushR acc (x, y)) := by
  rw [drop_at e k x hx, drop_at e (k + 1) y hy, cmbR_step, hf]; simp
theorem cmb_end {f : Int → Bool} {e : List Int} {k : Nat} (h : ¬ k + 1 < e.length) (acc : List Sp) : cmbR f (e.drop k) acc = acc := by
  rcases Nat.lt_or_ge k e.length with h1 | h1
  · obtain ⟨x, hx⟩ := at_lt h1
    rw [drop_at e k x hx, List.drop_eq_nil_of_le (by omega), cmbR_one]
  · rw [List.drop_eq_nil_of_le h1]; simp [cmbR]
theorem own_nil_shape {T : TypeId} {w : World} {base : Nat} {v : Value} (h : OwnG sc T 2 w base v []) : ∃ A c, v = .slice A 0 c := by
  obtain ⟨A, c, hv, _⟩ := ownK_shape h
  exact ⟨A, c, hv⟩
set_option maxRecDepth 100000 in
set_option maxHeartbeats 8000000 in
theorem comb_any (kind : Nat) (hkd : kind = 0 ∨ kind = 1 ∨ kind = 2) (va vb : Value) (a b : List Sp) (ha : a.length ≤ 1000) (hb : b.length ≤ 1000) (w : World) (hA : LstV w va a) (hB : LstV w vb b) :
    Calls Try.prog 18 #[va, vb, .int .i64 (kind : Int)] w fun e w' => ∃ v', e = .returned v' ∧ LstV w' v' (opS (opF kind a b) a b) ∧ Below w.heap.size w w' := by
  have C := Lib.hid (rends_any va vb a b ha hb w hA hB)
  have K := Lib.hid (fun x W (hW : Below w.heap.size w W) => kept_any kind hkd x va vb a b ha hb W (hA.below hW) (hB.below hW))
  have hlen : (endsF (endsF [] a) b).length ≤ 4000 := by
    have h2 := endsF_len b (endsF [] a)
    have h3 := endsF_len a []
    simp only [List.length_nil] at h3
    omega
  unfold opS
  generalize endsF (endsF [] a) b = e at C hlen ⊢
  generalize opF kind a b = f at K ⊢
  clear hA hB
  go_enter Try.func18, Try.ntmps18
  go_wp2_with fail
  refine C.out.mono ?_
  rintro er w1 ⟨ve, rfl, l1, b1⟩
  have hh := l1
  obtain ⟨A, c, rfl, -⟩ := hh
  have L1 := Lib.hid l1
  have B1 := Lib.hid b1
  clear l1 b1 C
  go_wp2_with fail
  go_loopw [8, 9] (fun u i wr => ∃ (k : Nat) (acc : List Sp), i = .int .i64 (k : Int) ∧ k ≤ e.length ∧ acc.length ≤ k ∧ Hid (cmbR f (e.drop k) acc = cmbR f e []) ∧ Hid (OwnR wr w1.heap.size u acc) ∧ Hid (Below w1.heap.size w1 wr)) (fun _ i _ => e.length - (intOf i).toNat)
  case atStart => exact ⟨0, [], rfl, Nat.zero_le _, Nat.zero_le _, Lib.hid rfl, Lib.hid (OwnG.nil _ _ _ _ _), Lib.hid (Below.refl _ _)⟩
  case round =>
    obtain ⟨k, acc, rfl, hk, hac, HE, HO, HB⟩ := hrel
    by_cases hlt : k + 1 < e.length
    · obtain ⟨x, hx⟩ := at_lt (show k < e.length by omega)
      obtain ⟨y, hy⟩ := at_lt hlt
      obtain ⟨p, o, rfl, hp, m0⟩ := int_at (L1.out.below HB.out) hx
      obtain ⟨p', o', e', -, m1⟩ := int_at (L1.out.below HB.out) hy
      cases e'
      have gk : (k : Int) < (e.length : Int) := by omega
      have gk1 : (k : Int) + 1 < (e.length : Int) := by omega
      have wk : IntKind.i64.wrap ((k : Int) + 1) = (k : Int) + 1 := IntWalk.i64_in _ (by omega)
      have nk : ((k : Int) + 1).toNat = k + 1 := by omega
      have zk : (0 : Int) ≤ (k : Int) + 1 := by omega
      have ES : Hid (f x = false → cmbR f (e.drop k) acc = cmbR f (e.drop (k + 1)) acc) := fun h => cmb_skip hx hy h acc
      have EP : Hid (f x = true → cmbR f (e.drop k) acc = cmbR f (e.drop (k + 1)) (pushR acc (x, y))) := fun h => cmb_push hx hy h acc
      have KK := Lib.hid (K.out x wr (B1.out.trans (HB.out.mono B1.out.size)))
      clear hx hy
      cases hf : f x with
      | false =>
        have E : Hid (cmbR f (e.drop (k + 1)) acc = cmbR f e []) := (ES.out hf).symm.trans HE.out
        rw [hf] at KK
        clear ES EP HE hf
        go_wp2_with fail
        refine KK.out.mono ?_
        rintro er w' ⟨rfl, rfl⟩
        go_wp2_with fail
        go_roundw
        case rel => exact ⟨k + 1, acc, by go_num, by omega, by omega, E, HO, HB⟩
        case measure => simp [intOf]; omega
      | true =>
        have E : Hid (cmbR f (e.drop (k + 1)) (pushR acc (x, y)) = cmbR f e []) := (EP.out hf).symm.trans HE.out
        rw [hf] at KK
        clear ES EP HE hf
        rcases snoc_cases acc with rfl | ⟨ac, t, rfl⟩
        · obtain ⟨A', c', rfl⟩ := own_nil_shape HO.out
          rw [pushR_nil] at E
          go_wp2_with fail
          refine KK.out.mono ?_
          rintro er w' ⟨rfl, rfl⟩
          clear KK
          go_wp2_with fail
          go_quiet (fail)
          have bq := below_drewN (Below.refl wr.heap.size wr) nq
          have n0 := (bq.cell (p := ⟨p, o + k, none⟩) hp).trans m0
          have n1 := (bq.cell (p := ⟨p, o + (k + 1), none⟩) hp).trans m1
          have O2 := Lib.hid (HO.out.below bq)
          have B2 := Lib.hid (HB.out.trans (bq.mono HB.out.size))
          clear m0 m1 bq HO HB
          generalize wr.drewN nq = w2 at n0 n1 O2 B2 ⊢
          go_wp2_with fail
          go_region_law (first | (refine stepG_one sc_len sc_one (by decide) Try.underlying22 info_rp rfl (by decide) _ rfl _ _ rfl w1.heap.size _ ([]) (x, y) rfl (World.ownsRow.alloc O2.out _) w2.heap.size _ (heap_alloc_new _ _) rfl rfl (by have := B2.out.size; simp; omega) (by simp <;> (simp at hac) <;> omega) ?_
                                  intro v3 w3 own3 b3 gr3
                                  have O3 := Lib.hid own3
                                  have B3 : Hid (Below w1.heap.size w1 w3) := (B2.out.alloc B2.out.size _).drew.trans b3
                                  clear own3 b3 gr3))
          all_goals
            clear n0 n1 O2 B2
            go_wp2_with fail
            go_roundw
            case rel => exact ⟨k + 1, ([]) ++ [(x, y)], by go_num, by omega, by simp <;> (simp at hac) <;> omega, E, O3, B3⟩
            case measure => simp [intOf]; omega
        · obtain ⟨g, c', rfl, g0, g1, x0, x1, x2⟩ := own_last HO.out
          have wn : IntKind.i64.wrap (ac.length : Int) = (ac.length : Int) := IntWalk.i64_in _ (by simp at hac; omega)
          by_cases ht : t.2 = x
          · have d1 : (t.2 == x) = true := beq_true ht
            rw [pushR_meet _ _ _ ht] at E
            go_wp2_with fail
            refine KK.out.mono ?_
            rintro er w' ⟨rfl, rfl⟩
            clear KK ht
            go_wp2_with fail
            go_quiet (fail)
            have bq := below_drewN (Below.refl wr.heap.size wr) nq
            have n1 := (bq.cell (p := ⟨p, o + (k + 1), none⟩) hp).trans m1
            have y1 := (bq.cell (p := ⟨g, ac.length * 2 + 1, none⟩) g1).trans x1
            have y2 := (bq.frozen (p := ⟨g, ac.length * 2 + 1, none⟩) g1).trans x2
            have O2 := Lib.hid (HO.out.below bq)
            have B2 := Lib.hid (HB.out.trans (bq.mono HB.out.size))
            clear m0 m1 bq HO HB x0 x1 x2 d1
            generalize wr.drewN nq = w2 at n1 y1 y2 O2 B2 ⊢
            have O3 := Lib.hid (put_end O2.out y)
            have B3 := Lib.hid (B2.out.setCell (p := ⟨g, ac.length * 2 + 1, none⟩) g0 (.int .i64 y))
            clear O2 B2
            go_wp2_with fail
            go_roundw
            case rel => exact ⟨k + 1, _, by go_num, by omega, by simp <;> (simp at hac) <;> omega, E, O3, B3⟩
            case measure => simp [intOf]; omega
          · have d1 : (t.2 == x) = false := beq_false ht
            rw [pushR_far _ _ _ ht] at E
            go_wp2_with fail
            refine KK.out.mono ?_
            rintro er w' ⟨rfl, rfl⟩
            clear ht
            clear KK
            go_wp2_with fail
            go_quiet (fail)
            have bq := below_drewN (Below.refl wr.heap.size wr) nq
            have n0 := (bq.cell (p := ⟨p, o + k, none⟩) hp).trans m0
            have n1 := (bq.cell (p := ⟨p, o + (k + 1), none⟩) hp).trans m1
            have O2 := Lib.hid (HO.out.below bq)
            have B2 := Lib.hid (HB.out.trans (bq.mono HB.out.size))
            clear m0 m1 bq HO HB x0 x1 x2
            generalize wr.drewN nq = w2 at n0 n1 O2 B2 ⊢
            go_wp2_with fail
            go_region_law (first | (refine stepG_one sc_len sc_one (by decide) Try.underlying22 info_rp rfl (by decide) _ rfl _ _ rfl w1.heap.size _ (ac ++ [t]) (x, y) rfl (World.ownsRow.alloc O2.out _) w2.heap.size _ (heap_alloc_new _ _) rfl rfl (by have := B2.out.size; simp; omega) (by simp <;> (simp at hac) <;> omega) ?_
                                    intro v3 w3 own3 b3 gr3
                                    have O3 := Lib.hid own3
                                    have B3 : Hid (Below w1.heap.size w1 w3) := (B2.out.alloc B2.out.size _).drew.trans b3
                                    clear own3 b3 gr3))
            all_goals
              clear n0 n1 O2 B2
              go_wp2_with fail
              go_roundw
              case rel => exact ⟨k + 1, (ac ++ [t]) ++ [(x, y)], by go_num, by omega, by simp <;> (simp at hac) <;> omega, E, O3, B3⟩
              case measure => simp [intOf]; omega
    · have d : decide (k + 1 < e.length) = false := by rw [decide_eq_false_iff_not]; exact hlt
      have R : Hid (cmbR f e [] = acc) := by
        show _ = _
        rw [← HE.out, cmb_end hlt]
      clear hlt HE
      have gd : decide ((k : Int) + 1 < (e.length : Int)) = false := by simp at d ⊢; omega
      go_wp2_with fail
      go_ret
      exact ⟨_, rfl, by rw [R.out]; exact OwnG.lst HO.out, B1.out.trans (HB.out.mono B1.out.size)⟩
theorem nrm_op (l : List Sp) : opS (opF 0 l []) l [] = nrmS l := (op_of (opF_opr 0 l []) (nrmS_spec l).1 fun z => by rw [(nrmS_spec l).2, opF_0]; simp [memS]).symm
/-- The ends are ints. -/
def OkS (l : List Sp) : Prop := ∀ s ∈ l, (-9223372036854775808 ≤ s.1 ∧ s.1 ≤ 9223372036854775807) ∧ -9223372036854775808 ≤ s.2 ∧ s.2 ≤ 9223372036854775807
theorem OkS.nrm {l : List Sp} (h : OkS l) : OkS (nrmS l) := nrmS_ends (Q := fun x => -9223372036854775808 ≤ x ∧ x ≤ 9223372036854775807) h
theorem OkS.op {f : Int → Bool} {a b : List Sp} (o : Opr f a b) (ha : OkS a) (hb : OkS b) : OkS (opS f a b) := op_ends (Q := fun x => -9223372036854775808 ≤ x ∧ x ≤ 9223372036854775807) o ha hb
theorem OkS.at {l : List Sp} (h : OkS l) {k : Nat} {s : Sp} (hs : l[k]? = some s) : (-9223372036854775808 ≤ s.1 ∧ s.1 ≤ 9223372036854775807) ∧ -9223372036854775808 ≤ s.2 ∧ s.2 ≤ 9223372036854775807 := h s (List.mem_iff_getElem?.2 ⟨k, hs⟩)
/-- A part of a normalized list's length fits into 64 bits. -/
theorem sum_fits {l : List Sp} (h : Nrm l) (ok : OkS l) (k : Nat) : 0 ≤ sumS (l.take k) ∧ sumS (l.take k) ≤ 18446744073709551615 := by
  have := sumS_bound (l.take k) (-9223372036854775808) 9223372036854775807 (h.take k) (by decide) fun s hs => by
    have := ok s (List.mem_of_mem_take hs)
    exact ⟨this.1.1, this.2.2⟩
  omega
end Go.Proofs.Ytmlmdggfcdakhaa
