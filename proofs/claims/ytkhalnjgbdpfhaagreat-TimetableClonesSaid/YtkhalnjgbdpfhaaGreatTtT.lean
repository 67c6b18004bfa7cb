/-
  trips and Equal of the reference of timetables: what each call answers; nothing that existed before the call has changed behind it. Condition: few trips.
-/
import Derived.Test.YtkhalnjgbdpfhaaGreatTtH
namespace Go.Proofs.YtkhalnjgbdpfhaaGreat
open Go.RowKit

theorem tr_head {x y : Tp} (h : ¬ (x.1 = y.1 ∧ x.2.1 = y.2.1 ∧ x.2.2.1 = y.2.2.1 ∧ x.2.2.2.1 = y.2.2.2.1)) : eTr x y = false := by unfold eTr; rw [decide_eq_false h]; rfl
theorem tr_calls {x y : Tp} (h : eqB eCc (clT x) (clT y) = false) : eTr x y = false := by unfold eTr; rw [h]; simp
theorem tr_same {x y : Tp} (h : x.1 = y.1 ∧ x.2.1 = y.2.1 ∧ x.2.2.1 = y.2.2.1 ∧ x.2.2.2.1 = y.2.2.2.1) (h2 : eqB eCc (clT x) (clT y) = true) : eTr x y = true := by unfold eTr; rw [decide_eq_true h, h2]; rfl
set_option maxRecDepth 100000 in
set_option maxHeartbeats 1000000 in
theorem rtrips_any (vl vm : Value) (l m : List Tp) (hl : l.length ≤ 1000000) (w : World) (h : LstTp w vl l) (h' : LstTp w vm m) : Calls Tryz.prog 28 #[vl, vm] w fun e w' => e = .returned (.bool (eqB eTr l m)) ∧ ∃ m, w' = w.drewN m := by
  have H := Lib.hid h
  have H' := Lib.hid h'
  obtain ⟨⟨A, n, rfl, -, -, -⟩, -⟩ := h
  obtain ⟨⟨A', n', rfl, -, -, -⟩, -⟩ := h'
  obtain ⟨V, hV⟩ : ∃ q, eqB eTr l m = q := ⟨_, rfl⟩
  rw [hV]
  have HV := Lib.hid hV
  clear hV
  by_cases hn : l.length ≠ m.length
  · have R : Hid (V = false) := Lib.hid (by rw [← HV.out]; exact eq_len hn)
    have g : ((l.length : Int) != (m.length : Int)) = true := bne_true (by omega)
    clear hn
    go_enter Tryz.func28, Tryz.ntmps28
    go_wp2_with fail
    go_ret
    exact ⟨ret_bool R.out.symm, 0, rfl⟩
  have hm := Decidable.not_not.1 hn
  clear hn
  have g : ((l.length : Int) != (m.length : Int)) = false := neq_false (by omega)
  have LM := Lib.hid hm
  clear hm
  have HN : Hid (∃ n, w = w.drewN n) := Lib.hid ⟨0, rfl⟩
  go_enter Tryz.func28, Tryz.ntmps28
  go_wp2_with fail
  clear g
  go_loopw [5] (fun i wr => ∃ k : Nat, i = .int .i64 k ∧ k ≤ l.length ∧ Hid (∀ (j : Nat) x y, j < k → l[j]? = some x → m[j]? = some y → eTr x y = true) ∧ Hid (∃ n, wr = w.drewN n)) (fun i _ => l.length - (intOf i).toNat)
  case atStart => exact ⟨0, rfl, Nat.zero_le _, Lib.hid (fun j x y h => absurd h (Nat.not_lt_zero _)), HN⟩
  case round =>
    clear HN
    obtain ⟨k, rfl, hk, hall, HN⟩ := hrel
    have bn := drew_below HN.out
    by_cases hlt : k < l.length
    · obtain ⟨⟨id, r, ca, f, v, cl⟩, hx⟩ := at_lt hlt
      obtain ⟨⟨id', r', ca', f', v', cl'⟩, hy⟩ := at_lt (show k < m.length by have := LM.out; omega)
      obtain ⟨nm, hnm⟩ : ∃ nm, str id = nm := ⟨_, rfl⟩
      obtain ⟨nm', hnm'⟩ : ∃ nm, str id' = nm := ⟨_, rfl⟩
      obtain ⟨b, o, B, mm, rfl, rfl, hb, r0, r1, r2, r3, r4, lc, lcl, -⟩ := trip_at (H.out.below bn) hx hnm
      obtain ⟨b', o', B', mm', rfl, rfl, hb', s0, s1, s2, s3, s4, lc', lcl', -⟩ := trip_at (H'.out.below bn) hy hnm'
      have gk : (k : Int) < (l.length : Int) := by omega
      have gk' : (k : Int) < (m.length : Int) := by have := LM.out; omega
      go_wp2_with fail
      simp only [List.append_eq, List.cons_append, List.nil_append]
      by_cases e0 : id = id'
      case neg =>
        have gs := bytes_ne (a := nm) (b := nm') (fun g => e0 (str_inj (by rw [hnm, hnm', g])))
        have R : Hid (V = false) := Lib.hid (by rw [← HV.out]; exact eq_diff hx hy (tr_head (fun g => e0 g.1)))
        clear hx hy hnm hnm' hall bn hk hlt hb hb' lc lc' HV e0
        go_quiet (fail)
        have hq := drew_on HN nq
        generalize wr.drewN nq = w9 at hq ⊢
        go_wp2_with fail
        go_ret
        exact ⟨ret_bool R.out.symm, hq.out⟩
      have gs := bytes_eq (a := nm) (b := nm') (by rw [← hnm, ← hnm', e0])
      by_cases e1 : r = r'
      case neg =>
        have g1 : (r != r') = true := bne_true e1
        have R : Hid (V = false) := Lib.hid (by rw [← HV.out]; exact eq_diff hx hy (tr_head (fun g => e1 g.2.1)))
        clear hx hy hnm hnm' hall bn hk hlt hb hb' lc lc' HV e0 e1
        go_quiet (fail)
        have hq := drew_on HN nq
        generalize wr.drewN nq = w9 at hq ⊢
        go_wp2_with fail
        go_ret
        exact ⟨ret_bool R.out.symm, hq.out⟩
      have g1 : (r != r') = false := neq_false e1
      by_cases e2 : ca = ca'
      case neg =>
        have g2 : (ca != ca') = true := bne_true e2
        have R : Hid (V = false) := Lib.hid (by rw [← HV.out]; exact eq_diff hx hy (tr_head (fun g => e2 g.2.2.1)))
        clear hx hy hnm hnm' hall bn hk hlt hb hb' lc lc' HV e0 e1 e2
        go_quiet (fail)
        have hq := drew_on HN nq
        generalize wr.drewN nq = w9 at hq ⊢
        go_wp2_with fail
        go_ret
        exact ⟨ret_bool R.out.symm, hq.out⟩
      have g2 : (ca != ca') = false := neq_false e2
      by_cases e3 : f = f'
      case neg =>
        have g3 : (!(f == f')) = true := by cases f <;> cases f' <;> simp at e3 ⊢
        have R : Hid (V = false) := Lib.hid (by rw [← HV.out]; exact eq_diff hx hy (tr_head (fun g => e3 g.2.2.2)))
        clear hx hy hnm hnm' hall bn hk hlt hb hb' lc lc' HV e0 e1 e2 e3
        go_quiet (fail)
        have hq := drew_on HN nq
        generalize wr.drewN nq = w9 at hq ⊢
        go_wp2_with fail
        go_ret
        exact ⟨ret_bool R.out.symm, hq.out⟩
      have g3 : (!(f == f')) = false := by rw [e3]; cases f' <;> rfl
      by_cases e4 : cl.length = cl'.length
      case neg =>
        have g4 : ((cl.length : Int) != (cl'.length : Int)) = true := bne_true (by omega)
        have R : Hid (V = false) := Lib.hid (by rw [← HV.out]; exact eq_diff hx hy (tr_calls (eq_len e4)))
        clear hx hy hnm hnm' hall bn hk hlt hb hb' lc lc' HV e0 e1 e2 e3 e4
        go_quiet (fail)
        have hq := drew_on HN nq
        generalize wr.drewN nq = w9 at hq ⊢
        go_wp2_with fail
        go_ret
        exact ⟨ret_bool R.out.symm, hq.out⟩
      have g4 : ((cl.length : Int) != (cl'.length : Int)) = false := neq_false (by omega)
      have RC := Lib.hid (fun (h : eqB eCc cl cl' = false) => (eq_diff hx hy (tr_calls h) : eqB eTr l m = false))
      have NC := Lib.hid (fun (h : eqB eCc cl cl' = true) => eq_more hall.out hx hy (tr_same (x := (id, r, ca, f, .slice B cl.length mm, cl)) (y := (id', r', ca', f', .slice B' cl'.length mm', cl')) ⟨e0, e1, e2, e3⟩ h))
      have E4 := Lib.hid e4
      have LC := Lib.hid lc
      have LC' := Lib.hid lc'
      have R4 := Lib.hid r4
      have S4 := Lib.hid s4
      have HB := Lib.hid hb
      have HB' := Lib.hid hb'
      clear hx hy hnm hnm' hall bn hk hlt hb hb' lc lc' e0 e1 e2 e3 e4
      go_quiet (fail)
      have hq := drew_on HN nq
      have hw9 : ∃ q, wr.drewN nq = wr.drewN q := ⟨nq, rfl⟩
      generalize wr.drewN nq = w9 at hq hw9 ⊢
      have W9 := Lib.hid hw9
      clear hw9 r0 r1 r2 r3 r4 s0 s1 s2 s3 s4 gs g1 g2 g3 g4
      go_wp2_with fail
      go_loopw [6] (fun i wx => ∃ j : Nat, i = .int .i64 j ∧ j ≤ cl.length ∧ Hid (∀ (t : Nat) x y, t < j → cl[t]? = some x → cl'[t]? = some y → eCc x y = true) ∧ Hid (∃ n, wx = wr.drewN n)) (fun i _ => cl.length - (intOf i).toNat)
      case atStart => exact ⟨0, rfl, Nat.zero_le _, Lib.hid (fun j x y h => absurd h (Nat.not_lt_zero _)), W9⟩
      case round =>
        clear hq W9
        obtain ⟨j, rfl, hj, hjall, HX⟩ := hrel
        have bx := drew_below HX.out
        have r4 := (bx.cell (p := ⟨b, o + k * 5 + 4, none⟩) HB.out).trans R4.out
        have s4 := (bx.cell (p := ⟨b', o' + k * 5 + 4, none⟩) HB'.out).trans S4.out
        by_cases hjl : j < cl.length
        · obtain ⟨⟨x0, x1, x2, x3, x4⟩, hx⟩ := at_lt hjl
          obtain ⟨⟨y0, y1, y2, y3, y4⟩, hy⟩ := at_lt (show j < cl'.length by have := E4.out; omega)
          obtain ⟨cb, co, rfl, -, c0, c1, c2, c3, c4⟩ := five_at (LC.out.below bx) hx
          obtain ⟨db, dd, rfl, -, d0, d1, d2, d3, d4⟩ := five_at (LC'.out.below bx) hy
          have gj : (j : Int) < (cl.length : Int) := by omega
          have gj' : (j : Int) < (cl'.length : Int) := by have := E4.out; omega
          by_cases he : x0 = y0 ∧ x1 = y1 ∧ x2 = y2 ∧ x3 = y3 ∧ x4 = y4
          · obtain ⟨rfl, rfl, rfl, rfl, rfl⟩ := he
            have E := fun W => neq_cc_same x0 x1 x2 x3 x4 W
            have N := Lib.hid (eq_more hjall.out hx hy (eCc_r _))
            clear hx hy hjall bx hj hjl
            go_wp2_with fail
            go_quiet (fail)
            have hz := drew_on HX nq
            generalize wr.drewN nq = w10 at hz ⊢
            clear HX
            go_wp2_with fail
            go_roundw
            case rel => exact ⟨j + 1, by go_num, by omega, N, hz⟩
            case measure => simp [intOf]; omega
          · have E := fun W => neq_cc_no x0 y0 x1 y1 x2 y2 x3 y3 x4 y4 he W
            have R : Hid (V = false) := Lib.hid (by rw [← HV.out]; exact RC.out (eq_diff hx hy (decide_eq_false (fun g => he (by cases g; exact ⟨rfl, rfl, rfl, rfl, rfl⟩)))))
            clear hx hy hjall bx hj hjl he RC NC HV
            go_wp2_with fail
            go_quiet (fail)
            have hz := drew_on HX nq
            generalize wr.drewN nq = w10 at hz ⊢
            go_wp2_with fail
            go_ret
            obtain ⟨n1, e1⟩ := HN.out
            obtain ⟨n2, e2⟩ := hz.out
            exact ⟨ret_bool R.out.symm, n1 + n2, by rw [e2, e1, World.drewN_drewN]⟩
        · have dj : decide (j < cl.length) = false := by rw [decide_eq_false_iff_not]; exact hjl
          have N := Lib.hid (NC.out (eq_end E4.out (fun t x y ht => hjall.out t x y (by omega))))
          have HZ : Hid (∃ n, wr = w.drewN n) := Lib.hid (by
            obtain ⟨n1, e1⟩ := HN.out
            obtain ⟨n2, e2⟩ := HX.out
            exact ⟨n1 + n2, by rw [e2, e1, World.drewN_drewN]⟩)
          clear hjall bx hj hjl RC NC
          go_wp2_with fail
          go_roundw
          case rel => exact ⟨k + 1, by go_num, by omega, N, HZ⟩
          case measure => simp [intOf]; omega
    · have dk : decide (k < l.length) = false := by rw [decide_eq_false_iff_not]; exact hlt
      have R : Hid (V = true) := Lib.hid (by rw [← HV.out]; exact eq_end LM.out (fun j x y hj => hall.out j x y (by omega)))
      clear hlt hall bn
      go_wp2_with fail
      go_ret
      exact ⟨ret_bool R.out.symm, HN.out⟩
end Go.Proofs.YtkhalnjgbdpfhaaGreat
