/-
  Equal of the program's timetables: whether both have the same elements; nothing that existed before the call has changed behind it. Condition: few elements.
-/
import Derived.Test.YtkhalnjgbdpfhaaGreatTtQ
namespace Go.Proofs.YtkhalnjgbdpfhaaGreat
open Go.RowKit

set_option maxRecDepth 100000 in
set_option maxHeartbeats 2000000 in
theorem eqst_any (va vb : Value) (l m : List S13.St) (hl : l.length ≤ 1000000) (w : World) (h : S13.LstS w va l) (h' : S13.LstS w vb m) : Calls Tryz.prog 30 #[va, vb] w fun e w' => e = .returned (.bool (eqB eSt l m)) ∧ ∃ m, w' = w.drewN m := by
  have H := Lib.hid h
  have H' := Lib.hid h'
  obtain ⟨A, n, rfl, -, -, -⟩ := h
  obtain ⟨A', n', rfl, -, -, -⟩ := h'
  obtain ⟨V, hV⟩ : ∃ q, eqB eSt l m = q := ⟨_, rfl⟩
  rw [hV]
  have HV := Lib.hid hV
  clear hV
  by_cases hn : l.length ≠ m.length
  · have R : Hid (V = false) := Lib.hid (by rw [← HV.out]; exact eq_len hn)
    have g : ((l.length : Int) != (m.length : Int)) = true := bne_true (by omega)
    clear hn
    go_enter Tryz.func30, Tryz.ntmps30
    go_wp2_with fail
    go_ret
    exact ⟨ret_bool R.out.symm, 0, rfl⟩
  have hm := Decidable.not_not.1 hn
  clear hn
  have g : ((l.length : Int) != (m.length : Int)) = false := neq_false (by omega)
  have LM := Lib.hid hm
  clear hm
  have HN : Hid (∃ n, w = w.drewN n) := Lib.hid ⟨0, rfl⟩
  go_enter Tryz.func30, Tryz.ntmps30
  go_wp2_with fail
  clear g
  go_loopw [13] (fun i wr => ∃ k : Nat, i = .int .i64 k ∧ k ≤ l.length ∧ Hid (∀ (j : Nat) x y, j < k → l[j]? = some x → m[j]? = some y → eSt x y = true) ∧ Hid (∃ n, wr = w.drewN n)) (fun i _ => l.length - (intOf i).toNat)
  case atStart => exact ⟨0, rfl, Nat.zero_le _, Lib.hid (fun j x y h => absurd h (Nat.not_lt_zero _)), HN⟩
  case round =>
    clear HN
    obtain ⟨k, rfl, hk, hall, HN⟩ := hrel
    have bn := drew_below HN.out
    by_cases hlt : k < l.length
    · obtain ⟨⟨id, z, f, h⟩, hx⟩ := at_lt hlt
      obtain ⟨⟨id', z', f', h'⟩, hy⟩ := at_lt (show k < m.length by have := LM.out; omega)
      have gk : (k : Int) < (l.length : Int) := by omega
      have gk' : (k : Int) < (m.length : Int) := by have := LM.out; omega
      by_cases he : id = id' ∧ z = z' ∧ f = f' ∧ h = h'
      · obtain ⟨rfl, rfl, rfl, rfl⟩ := he
        obtain ⟨nm, hnm⟩ : ∃ nm, str id = nm := ⟨_, rfl⟩
        obtain ⟨rb, ro, rfl, -, r0, r1, r2, r3⟩ := S13.four_at (H.out.below bn) hx hnm
        obtain ⟨sb, so, rfl, -, s0, s1, s2, s3⟩ := S13.four_at (H'.out.below bn) hy hnm
        have E := fun W => neq_st_same nm z f h W
        have N := Lib.hid (eq_more hall.out hx hy (decide_eq_true rfl))
        clear hx hy hall bn hk hlt hnm
        go_wp2_with fail
        go_quiet (fail)
        have hq := drew_on HN nq
        generalize wr.drewN nq = w9 at hq ⊢
        clear HN
        go_wp2_with fail
        go_roundw
        case rel => exact ⟨k + 1, by go_num, by omega, N, hq⟩
        case measure => simp [intOf]; omega
      · obtain ⟨nm, hnm⟩ : ∃ nm, str id = nm := ⟨_, rfl⟩
        obtain ⟨nm', hnm'⟩ : ∃ nm, str id' = nm := ⟨_, rfl⟩
        obtain ⟨rb, ro, rfl, -, r0, r1, r2, r3⟩ := S13.four_at (H.out.below bn) hx hnm
        obtain ⟨sb, so, rfl, -, s0, s1, s2, s3⟩ := S13.four_at (H'.out.below bn) hy hnm'
        have E := fun W => neq_st_no nm nm' z z' f f' h h' (fun g => he ⟨str_inj (by rw [hnm, hnm']; exact g.1), g.2⟩) W
        have R : Hid (V = false) := Lib.hid (by rw [← HV.out]; exact eq_diff hx hy (decide_eq_false (fun g => he (by cases g; exact ⟨rfl, rfl, rfl, rfl⟩))))
        clear hx hy hall bn hk hlt he hnm hnm'
        go_wp2_with fail
        go_quiet (fail)
        have hq := drew_on HN nq
        generalize wr.drewN nq = w9 at hq ⊢
        go_wp2_with fail
        go_ret
        exact ⟨ret_bool R.out.symm, hq.out⟩
    · have dk : decide (k < l.length) = false := by rw [decide_eq_false_iff_not]; exact hlt
      have R : Hid (V = true) := Lib.hid (by rw [← HV.out]; exact eq_end LM.out (fun j x y hj => hall.out j x y (by omega)))
      clear hall hlt hk
      go_wp2_with fail
      go_ret
      exact ⟨ret_bool R.out.symm, HN.out⟩
set_option maxRecDepth 100000 in
set_option maxHeartbeats 2000000 in
theorem eqro_any (va vb : Value) (l m : List Rt) (hl : l.length ≤ 1000000) (w : World) (h : S15.LstR w va l) (h' : S15.LstR w vb m) : Calls Tryz.prog 31 #[va, vb] w fun e w' => e = .returned (.bool (eqB eRo l m)) ∧ ∃ m, w' = w.drewN m := by
  have H := Lib.hid h
  have H' := Lib.hid h'
  obtain ⟨A, n, rfl, -, -, -⟩ := h
  obtain ⟨A', n', rfl, -, -, -⟩ := h'
  obtain ⟨V, hV⟩ : ∃ q, eqB eRo l m = q := ⟨_, rfl⟩
  rw [hV]
  have HV := Lib.hid hV
  clear hV
  by_cases hn : l.length ≠ m.length
  · have R : Hid (V = false) := Lib.hid (by rw [← HV.out]; exact eq_len hn)
    have g : ((l.length : Int) != (m.length : Int)) = true := bne_true (by omega)
    clear hn
    go_enter Tryz.func31, Tryz.ntmps31
    go_wp2_with fail
    go_ret
    exact ⟨ret_bool R.out.symm, 0, rfl⟩
  have hm := Decidable.not_not.1 hn
  clear hn
  have g : ((l.length : Int) != (m.length : Int)) = false := neq_false (by omega)
  have LM := Lib.hid hm
  clear hm
  have HN : Hid (∃ n, w = w.drewN n) := Lib.hid ⟨0, rfl⟩
  go_enter Tryz.func31, Tryz.ntmps31
  go_wp2_with fail
  clear g
  go_loopw [13] (fun i wr => ∃ k : Nat, i = .int .i64 k ∧ k ≤ l.length ∧ Hid (∀ (j : Nat) x y, j < k → l[j]? = some x → m[j]? = some y → eRo x y = true) ∧ Hid (∃ n, wr = w.drewN n)) (fun i _ => l.length - (intOf i).toNat)
  case atStart => exact ⟨0, rfl, Nat.zero_le _, Lib.hid (fun j x y h => absurd h (Nat.not_lt_zero _)), HN⟩
  case round =>
    clear HN
    obtain ⟨k, rfl, hk, hall, HN⟩ := hrel
    have bn := drew_below HN.out
    by_cases hlt : k < l.length
    · obtain ⟨⟨id, z, f⟩, hx⟩ := at_lt hlt
      obtain ⟨⟨id', z', f'⟩, hy⟩ := at_lt (show k < m.length by have := LM.out; omega)
      have gk : (k : Int) < (l.length : Int) := by omega
      have gk' : (k : Int) < (m.length : Int) := by have := LM.out; omega
      by_cases he : id = id' ∧ z = z' ∧ f = f'
      · obtain ⟨rfl, rfl, rfl⟩ := he
        obtain ⟨nm, hnm⟩ : ∃ nm, str id = nm := ⟨_, rfl⟩
        obtain ⟨rb, ro, rfl, -, r0, r1, r2⟩ := S15.three_at (H.out.below bn) hx hnm
        obtain ⟨sb, so, rfl, -, s0, s1, s2⟩ := S15.three_at (H'.out.below bn) hy hnm
        have E := fun W => neq_ro_same nm z f W
        have N := Lib.hid (eq_more hall.out hx hy (decide_eq_true rfl))
        clear hx hy hall bn hk hlt hnm
        go_wp2_with fail
        go_quiet (fail)
        have hq := drew_on HN nq
        generalize wr.drewN nq = w9 at hq ⊢
        clear HN
        go_wp2_with fail
        go_roundw
        case rel => exact ⟨k + 1, by go_num, by omega, N, hq⟩
        case measure => simp [intOf]; omega
      · obtain ⟨nm, hnm⟩ : ∃ nm, str id = nm := ⟨_, rfl⟩
        obtain ⟨nm', hnm'⟩ : ∃ nm, str id' = nm := ⟨_, rfl⟩
        obtain ⟨rb, ro, rfl, -, r0, r1, r2⟩ := S15.three_at (H.out.below bn) hx hnm
        obtain ⟨sb, so, rfl, -, s0, s1, s2⟩ := S15.three_at (H'.out.below bn) hy hnm'
        have E := fun W => neq_ro_no nm nm' z z' f f' (fun g => he ⟨str_inj (by rw [hnm, hnm']; exact g.1), g.2⟩) W
        have R : Hid (V = false) := Lib.hid (by rw [← HV.out]; exact eq_diff hx hy (decide_eq_false (fun g => he (by cases g; exact ⟨rfl, rfl, rfl⟩))))
        clear hx hy hall bn hk hlt he hnm hnm'
        go_wp2_with fail
        go_quiet (fail)
        have hq := drew_on HN nq
        generalize wr.drewN nq = w9 at hq ⊢
        go_wp2_with fail
        go_ret
        exact ⟨ret_bool R.out.symm, hq.out⟩
    · have dk : decide (k < l.length) = false := by rw [decide_eq_false_iff_not]; exact hlt
      have R : Hid (V = true) := Lib.hid (by rw [← HV.out]; exact eq_end LM.out (fun j x y hj => hall.out j x y (by omega)))
      clear hall hlt hk
      go_wp2_with fail
      go_ret
      exact ⟨ret_bool R.out.symm, HN.out⟩
set_option maxRecDepth 100000 in
set_option maxHeartbeats 2000000 in
theorem eqca_any (va vb : Value) (l m : List S14.Cl) (hl : l.length ≤ 1000000) (w : World) (h : S14.LstC w va l) (h' : S14.LstC w vb m) : Calls Tryz.prog 32 #[va, vb] w fun e w' => e = .returned (.bool (eqB eCa l m)) ∧ ∃ m, w' = w.drewN m := by
  have H := Lib.hid h
  have H' := Lib.hid h'
  obtain ⟨A, n, rfl, -, -, -⟩ := h
  obtain ⟨A', n', rfl, -, -, -⟩ := h'
  obtain ⟨V, hV⟩ : ∃ q, eqB eCa l m = q := ⟨_, rfl⟩
  rw [hV]
  have HV := Lib.hid hV
  clear hV
  by_cases hn : l.length ≠ m.length
  · have R : Hid (V = false) := Lib.hid (by rw [← HV.out]; exact eq_len hn)
    have g : ((l.length : Int) != (m.length : Int)) = true := bne_true (by omega)
    clear hn
    go_enter Tryz.func32, Tryz.ntmps32
    go_wp2_with fail
    go_ret
    exact ⟨ret_bool R.out.symm, 0, rfl⟩
  have hm := Decidable.not_not.1 hn
  clear hn
  have g : ((l.length : Int) != (m.length : Int)) = false := neq_false (by omega)
  have LM := Lib.hid hm
  clear hm
  have HN : Hid (∃ n, w = w.drewN n) := Lib.hid ⟨0, rfl⟩
  go_enter Tryz.func32, Tryz.ntmps32
  go_wp2_with fail
  clear g
  go_loopw [13] (fun i wr => ∃ k : Nat, i = .int .i64 k ∧ k ≤ l.length ∧ Hid (∀ (j : Nat) x y, j < k → l[j]? = some x → m[j]? = some y → eCa x y = true) ∧ Hid (∃ n, wr = w.drewN n)) (fun i _ => l.length - (intOf i).toNat)
  case atStart => exact ⟨0, rfl, Nat.zero_le _, Lib.hid (fun j x y h => absurd h (Nat.not_lt_zero _)), HN⟩
  case round =>
    clear HN
    obtain ⟨k, rfl, hk, hall, HN⟩ := hrel
    have bn := drew_below HN.out
    by_cases hlt : k < l.length
    · obtain ⟨⟨id, kw, f, t⟩, hx⟩ := at_lt hlt
      obtain ⟨⟨id', kw', f', t'⟩, hy⟩ := at_lt (show k < m.length by have := LM.out; omega)
      have gk : (k : Int) < (l.length : Int) := by omega
      have gk' : (k : Int) < (m.length : Int) := by have := LM.out; omega
      by_cases he : id = id' ∧ (kw 0 = kw' 0 ∧ kw 1 = kw' 1 ∧ kw 2 = kw' 2 ∧ kw 3 = kw' 3 ∧ kw 4 = kw' 4 ∧ kw 5 = kw' 5 ∧ kw 6 = kw' 6) ∧ f = f' ∧ t = t'
      · obtain ⟨rfl, ⟨g0, g1, g2, g3, g4, g5, g6⟩, rfl, rfl⟩ := he
        obtain ⟨nm, hnm⟩ : ∃ nm, str id = nm := ⟨_, rfl⟩
        obtain ⟨rb, ro, rfl, -, r0, rm, r8, r9⟩ := S14.ten_at (H.out.below bn) hx hnm
        have r1 : wr.cell? ⟨rb, ro + k * 10 + 1, none⟩ = some (.bool (kw 0)) := rm 0 (by omega)
        have r2 : wr.cell? ⟨rb, ro + k * 10 + 2, none⟩ = some (.bool (kw 1)) := rm 1 (by omega)
        have r3 : wr.cell? ⟨rb, ro + k * 10 + 3, none⟩ = some (.bool (kw 2)) := rm 2 (by omega)
        have r4 : wr.cell? ⟨rb, ro + k * 10 + 4, none⟩ = some (.bool (kw 3)) := rm 3 (by omega)
        have r5 : wr.cell? ⟨rb, ro + k * 10 + 5, none⟩ = some (.bool (kw 4)) := rm 4 (by omega)
        have r6 : wr.cell? ⟨rb, ro + k * 10 + 6, none⟩ = some (.bool (kw 5)) := rm 5 (by omega)
        have r7 : wr.cell? ⟨rb, ro + k * 10 + 7, none⟩ = some (.bool (kw 6)) := rm 6 (by omega)
        obtain ⟨sb, so, rfl, -, s0, sm, s8, s9⟩ := S14.ten_at (H'.out.below bn) hy hnm
        have s1 : wr.cell? ⟨sb, so + k * 10 + 1, none⟩ = some (.bool (kw' 0)) := sm 0 (by omega)
        have s2 : wr.cell? ⟨sb, so + k * 10 + 2, none⟩ = some (.bool (kw' 1)) := sm 1 (by omega)
        have s3 : wr.cell? ⟨sb, so + k * 10 + 3, none⟩ = some (.bool (kw' 2)) := sm 2 (by omega)
        have s4 : wr.cell? ⟨sb, so + k * 10 + 4, none⟩ = some (.bool (kw' 3)) := sm 3 (by omega)
        have s5 : wr.cell? ⟨sb, so + k * 10 + 5, none⟩ = some (.bool (kw' 4)) := sm 4 (by omega)
        have s6 : wr.cell? ⟨sb, so + k * 10 + 6, none⟩ = some (.bool (kw' 5)) := sm 5 (by omega)
        have s7 : wr.cell? ⟨sb, so + k * 10 + 7, none⟩ = some (.bool (kw' 6)) := sm 6 (by omega)
        rw [← g0] at s1
        rw [← g1] at s2
        rw [← g2] at s3
        rw [← g3] at s4
        rw [← g4] at s5
        rw [← g5] at s6
        rw [← g6] at s7
        have E := fun W => neq_ca_same nm (kw 0) (kw 1) (kw 2) (kw 3) (kw 4) (kw 5) (kw 6) f t W
        have N := Lib.hid (eq_more hall.out hx hy (decide_eq_true ⟨rfl, ⟨g0, g1, g2, g3, g4, g5, g6⟩, rfl, rfl⟩))
        clear hx hy hall bn hk hlt hnm rm sm g0 g1 g2 g3 g4 g5 g6
        go_wp2_with fail
        go_quiet (fail)
        have hq := drew_on HN nq
        generalize wr.drewN nq = w9 at hq ⊢
        clear HN
        go_wp2_with fail
        go_roundw
        case rel => exact ⟨k + 1, by go_num, by omega, N, hq⟩
        case measure => simp [intOf]; omega
      · obtain ⟨nm, hnm⟩ : ∃ nm, str id = nm := ⟨_, rfl⟩
        obtain ⟨nm', hnm'⟩ : ∃ nm, str id' = nm := ⟨_, rfl⟩
        obtain ⟨rb, ro, rfl, -, r0, rm, r8, r9⟩ := S14.ten_at (H.out.below bn) hx hnm
        have r1 : wr.cell? ⟨rb, ro + k * 10 + 1, none⟩ = some (.bool (kw 0)) := rm 0 (by omega)
        have r2 : wr.cell? ⟨rb, ro + k * 10 + 2, none⟩ = some (.bool (kw 1)) := rm 1 (by omega)
        have r3 : wr.cell? ⟨rb, ro + k * 10 + 3, none⟩ = some (.bool (kw 2)) := rm 2 (by omega)
        have r4 : wr.cell? ⟨rb, ro + k * 10 + 4, none⟩ = some (.bool (kw 3)) := rm 3 (by omega)
        have r5 : wr.cell? ⟨rb, ro + k * 10 + 5, none⟩ = some (.bool (kw 4)) := rm 4 (by omega)
        have r6 : wr.cell? ⟨rb, ro + k * 10 + 6, none⟩ = some (.bool (kw 5)) := rm 5 (by omega)
        have r7 : wr.cell? ⟨rb, ro + k * 10 + 7, none⟩ = some (.bool (kw 6)) := rm 6 (by omega)
        obtain ⟨sb, so, rfl, -, s0, sm, s8, s9⟩ := S14.ten_at (H'.out.below bn) hy hnm'
        have s1 : wr.cell? ⟨sb, so + k * 10 + 1, none⟩ = some (.bool (kw' 0)) := sm 0 (by omega)
        have s2 : wr.cell? ⟨sb, so + k * 10 + 2, none⟩ = some (.bool (kw' 1)) := sm 1 (by omega)
        have s3 : wr.cell? ⟨sb, so + k * 10 + 3, none⟩ = some (.bool (kw' 2)) := sm 2 (by omega)
        have s4 : wr.cell? ⟨sb, so + k * 10 + 4, none⟩ = some (.bool (kw' 3)) := sm 3 (by omega)
        have s5 : wr.cell? ⟨sb, so + k * 10 + 5, none⟩ = some (.bool (kw' 4)) := sm 4 (by omega)
        have s6 : wr.cell? ⟨sb, so + k * 10 + 6, none⟩ = some (.bool (kw' 5)) := sm 5 (by omega)
        have s7 : wr.cell? ⟨sb, so + k * 10 + 7, none⟩ = some (.bool (kw' 6)) := sm 6 (by omega)
        have E := fun W => neq_ca_no nm nm' (kw 0) (kw' 0) (kw 1) (kw' 1) (kw 2) (kw' 2) (kw 3) (kw' 3) (kw 4) (kw' 4) (kw 5) (kw' 5) (kw 6) (kw' 6) f f' t t' (fun g => he ⟨str_inj (by rw [hnm, hnm']; exact g.1), ⟨g.2.1, g.2.2.1, g.2.2.2.1, g.2.2.2.2.1, g.2.2.2.2.2.1, g.2.2.2.2.2.2.1, g.2.2.2.2.2.2.2.1⟩, g.2.2.2.2.2.2.2.2.1, g.2.2.2.2.2.2.2.2.2⟩) W
        have R : Hid (V = false) := Lib.hid (by rw [← HV.out]; exact eq_diff hx hy (decide_eq_false (fun g => he g)))
        clear hx hy hall bn hk hlt he hnm hnm' rm sm
        go_wp2_with fail
        go_quiet (fail)
        have hq := drew_on HN nq
        generalize wr.drewN nq = w9 at hq ⊢
        go_wp2_with fail
        go_ret
        exact ⟨ret_bool R.out.symm, hq.out⟩
    · have dk : decide (k < l.length) = false := by rw [decide_eq_false_iff_not]; exact hlt
      have R : Hid (V = true) := Lib.hid (by rw [← HV.out]; exact eq_end LM.out (fun j x y hj => hall.out j x y (by omega)))
      clear hall hlt hk
      go_wp2_with fail
      go_ret
      exact ⟨ret_bool R.out.symm, HN.out⟩
set_option maxRecDepth 100000 in
set_option maxHeartbeats 2000000 in
theorem eqex_any (va vb : Value) (l m : List S14.Ex) (hl : l.length ≤ 1000000) (w : World) (h : S14.LstX w va l) (h' : S14.LstX w vb m) : Calls Tryz.prog 33 #[va, vb] w fun e w' => e = .returned (.bool (eqB eEx l m)) ∧ ∃ m, w' = w.drewN m := by
  have H := Lib.hid h
  have H' := Lib.hid h'
  obtain ⟨A, n, rfl, -, -, -⟩ := h
  obtain ⟨A', n', rfl, -, -, -⟩ := h'
  obtain ⟨V, hV⟩ : ∃ q, eqB eEx l m = q := ⟨_, rfl⟩
  rw [hV]
  have HV := Lib.hid hV
  clear hV
  by_cases hn : l.length ≠ m.length
  · have R : Hid (V = false) := Lib.hid (by rw [← HV.out]; exact eq_len hn)
    have g : ((l.length : Int) != (m.length : Int)) = true := bne_true (by omega)
    clear hn
    go_enter Tryz.func33, Tryz.ntmps33
    go_wp2_with fail
    go_ret
    exact ⟨ret_bool R.out.symm, 0, rfl⟩
  have hm := Decidable.not_not.1 hn
  clear hn
  have g : ((l.length : Int) != (m.length : Int)) = false := neq_false (by omega)
  have LM := Lib.hid hm
  clear hm
  have HN : Hid (∃ n, w = w.drewN n) := Lib.hid ⟨0, rfl⟩
  go_enter Tryz.func33, Tryz.ntmps33
  go_wp2_with fail
  clear g
  go_loopw [13] (fun i wr => ∃ k : Nat, i = .int .i64 k ∧ k ≤ l.length ∧ Hid (∀ (j : Nat) x y, j < k → l[j]? = some x → m[j]? = some y → eEx x y = true) ∧ Hid (∃ n, wr = w.drewN n)) (fun i _ => l.length - (intOf i).toNat)
  case atStart => exact ⟨0, rfl, Nat.zero_le _, Lib.hid (fun j x y h => absurd h (Nat.not_lt_zero _)), HN⟩
  case round =>
    clear HN
    obtain ⟨k, rfl, hk, hall, HN⟩ := hrel
    have bn := drew_below HN.out
    by_cases hlt : k < l.length
    · obtain ⟨⟨z, d, f⟩, hx⟩ := at_lt hlt
      obtain ⟨⟨z', d', f'⟩, hy⟩ := at_lt (show k < m.length by have := LM.out; omega)
      have gk : (k : Int) < (l.length : Int) := by omega
      have gk' : (k : Int) < (m.length : Int) := by have := LM.out; omega
      by_cases he : z = z' ∧ d = d' ∧ f = f'
      · obtain ⟨rfl, rfl, rfl⟩ := he
        obtain ⟨rb, ro, rfl, -, r0, r1, r2⟩ := S14.three_at (H.out.below bn) hx
        obtain ⟨sb, so, rfl, -, s0, s1, s2⟩ := S14.three_at (H'.out.below bn) hy
        have E := fun W => neq_ex_same z d f W
        have N := Lib.hid (eq_more hall.out hx hy (decide_eq_true rfl))
        clear hx hy hall bn hk hlt
        go_wp2_with fail
        go_quiet (fail)
        have hq := drew_on HN nq
        generalize wr.drewN nq = w9 at hq ⊢
        clear HN
        go_wp2_with fail
        go_roundw
        case rel => exact ⟨k + 1, by go_num, by omega, N, hq⟩
        case measure => simp [intOf]; omega
      · obtain ⟨rb, ro, rfl, -, r0, r1, r2⟩ := S14.three_at (H.out.below bn) hx
        obtain ⟨sb, so, rfl, -, s0, s1, s2⟩ := S14.three_at (H'.out.below bn) hy
        have E := fun W => neq_ex_no z z' d d' f f' (he) W
        have R : Hid (V = false) := Lib.hid (by rw [← HV.out]; exact eq_diff hx hy (decide_eq_false (fun g => he (by cases g; exact ⟨rfl, rfl, rfl⟩))))
        clear hx hy hall bn hk hlt he
        go_wp2_with fail
        go_quiet (fail)
        have hq := drew_on HN nq
        generalize wr.drewN nq = w9 at hq ⊢
        go_wp2_with fail
        go_ret
        exact ⟨ret_bool R.out.symm, hq.out⟩
    · have dk : decide (k < l.length) = false := by rw [decide_eq_false_iff_not]; exact hlt
      have R : Hid (V = true) := Lib.hid (by rw [← HV.out]; exact eq_end LM.out (fun j x y hj => hall.out j x y (by omega)))
      clear hall hlt hk
      go_wp2_with fail
      go_ret
      exact ⟨ret_bool R.out.symm, HN.out⟩
set_option maxRecDepth 100000 in
set_option maxHeartbeats 2000000 in
theorem eqcc_any (va vb : Value) (l m : List Cl) (hl : l.length ≤ 1000000) (w : World) (h : LstC w va l) (h' : LstC w vb m) : Calls Tryz.prog 71 #[va, vb] w fun e w' => e = .returned (.bool (eqB eCc l m)) ∧ ∃ m, w' = w.drewN m := by
  have H := Lib.hid h
  have H' := Lib.hid h'
  obtain ⟨A, n, rfl, -, -, -⟩ := h
  obtain ⟨A', n', rfl, -, -, -⟩ := h'
  obtain ⟨V, hV⟩ : ∃ q, eqB eCc l m = q := ⟨_, rfl⟩
  rw [hV]
  have HV := Lib.hid hV
  clear hV
  by_cases hn : l.length ≠ m.length
  · have R : Hid (V = false) := Lib.hid (by rw [← HV.out]; exact eq_len hn)
    have g : ((l.length : Int) != (m.length : Int)) = true := bne_true (by omega)
    clear hn
    go_enter Tryz.func71, Tryz.ntmps71
    go_wp2_with fail
    go_ret
    exact ⟨ret_bool R.out.symm, 0, rfl⟩
  have hm := Decidable.not_not.1 hn
  clear hn
  have g : ((l.length : Int) != (m.length : Int)) = false := neq_false (by omega)
  have LM := Lib.hid hm
  clear hm
  have HN : Hid (∃ n, w = w.drewN n) := Lib.hid ⟨0, rfl⟩
  go_enter Tryz.func71, Tryz.ntmps71
  go_wp2_with fail
  clear g
  go_loopw [13] (fun i wr => ∃ k : Nat, i = .int .i64 k ∧ k ≤ l.length ∧ Hid (∀ (j : Nat) x y, j < k → l[j]? = some x → m[j]? = some y → eCc x y = true) ∧ Hid (∃ n, wr = w.drewN n)) (fun i _ => l.length - (intOf i).toNat)
  case atStart => exact ⟨0, rfl, Nat.zero_le _, Lib.hid (fun j x y h => absurd h (Nat.not_lt_zero _)), HN⟩
  case round =>
    clear HN
    obtain ⟨k, rfl, hk, hall, HN⟩ := hrel
    have bn := drew_below HN.out
    by_cases hlt : k < l.length
    · obtain ⟨⟨z, u, v, f, h⟩, hx⟩ := at_lt hlt
      obtain ⟨⟨z', u', v', f', h'⟩, hy⟩ := at_lt (show k < m.length by have := LM.out; omega)
      have gk : (k : Int) < (l.length : Int) := by omega
      have gk' : (k : Int) < (m.length : Int) := by have := LM.out; omega
      by_cases he : z = z' ∧ u = u' ∧ v = v' ∧ f = f' ∧ h = h'
      · obtain ⟨rfl, rfl, rfl, rfl, rfl⟩ := he
        obtain ⟨rb, ro, rfl, -, r0, r1, r2, r3, r4⟩ := five_at (H.out.below bn) hx
        obtain ⟨sb, so, rfl, -, s0, s1, s2, s3, s4⟩ := five_at (H'.out.below bn) hy
        have E := fun W => neq_cc_same z u v f h W
        have N := Lib.hid (eq_more hall.out hx hy (decide_eq_true rfl))
        clear hx hy hall bn hk hlt
        go_wp2_with fail
        go_quiet (fail)
        have hq := drew_on HN nq
        generalize wr.drewN nq = w9 at hq ⊢
        clear HN
        go_wp2_with fail
        go_roundw
        case rel => exact ⟨k + 1, by go_num, by omega, N, hq⟩
        case measure => simp [intOf]; omega
      · obtain ⟨rb, ro, rfl, -, r0, r1, r2, r3, r4⟩ := five_at (H.out.below bn) hx
        obtain ⟨sb, so, rfl, -, s0, s1, s2, s3, s4⟩ := five_at (H'.out.below bn) hy
        have E := fun W => neq_cc_no z z' u u' v v' f f' h h' (he) W
        have R : Hid (V = false) := Lib.hid (by rw [← HV.out]; exact eq_diff hx hy (decide_eq_false (fun g => he (by cases g; exact ⟨rfl, rfl, rfl, rfl, rfl⟩))))
        clear hx hy hall bn hk hlt he
        go_wp2_with fail
        go_quiet (fail)
        have hq := drew_on HN nq
        generalize wr.drewN nq = w9 at hq ⊢
        go_wp2_with fail
        go_ret
        exact ⟨ret_bool R.out.symm, hq.out⟩
    · have dk : decide (k < l.length) = false := by rw [decide_eq_false_iff_not]; exact hlt
      have R : Hid (V = true) := Lib.hid (by rw [← HV.out]; exact eq_end LM.out (fun j x y hj => hall.out j x y (by omega)))
      clear hall hlt hk
      go_wp2_with fail
      go_ret
      exact ⟨ret_bool R.out.symm, HN.out⟩
set_option maxRecDepth 100000 in
set_option maxHeartbeats 2000000 in
theorem eqfr_any (va vb : Value) (l m : List Fq) (hl : l.length ≤ 1000000) (w : World) (h : LstF w va l) (h' : LstF w vb m) : Calls Tryz.prog 36 #[va, vb] w fun e w' => e = .returned (.bool (eqB eFr l m)) ∧ ∃ m, w' = w.drewN m := by
  have H := Lib.hid h
  have H' := Lib.hid h'
  obtain ⟨A, n, rfl, -, -, -⟩ := h
  obtain ⟨A', n', rfl, -, -, -⟩ := h'
  obtain ⟨V, hV⟩ : ∃ q, eqB eFr l m = q := ⟨_, rfl⟩
  rw [hV]
  have HV := Lib.hid hV
  clear hV
  by_cases hn : l.length ≠ m.length
  · have R : Hid (V = false) := Lib.hid (by rw [← HV.out]; exact eq_len hn)
    have g : ((l.length : Int) != (m.length : Int)) = true := bne_true (by omega)
    clear hn
    go_enter Tryz.func36, Tryz.ntmps36
    go_wp2_with fail
    go_ret
    exact ⟨ret_bool R.out.symm, 0, rfl⟩
  have hm := Decidable.not_not.1 hn
  clear hn
  have g : ((l.length : Int) != (m.length : Int)) = false := neq_false (by omega)
  have LM := Lib.hid hm
  clear hm
  have HN : Hid (∃ n, w = w.drewN n) := Lib.hid ⟨0, rfl⟩
  go_enter Tryz.func36, Tryz.ntmps36
  go_wp2_with fail
  clear g
  go_loopw [13] (fun i wr => ∃ k : Nat, i = .int .i64 k ∧ k ≤ l.length ∧ Hid (∀ (j : Nat) x y, j < k → l[j]? = some x → m[j]? = some y → eFr x y = true) ∧ Hid (∃ n, wr = w.drewN n)) (fun i _ => l.length - (intOf i).toNat)
  case atStart => exact ⟨0, rfl, Nat.zero_le _, Lib.hid (fun j x y h => absurd h (Nat.not_lt_zero _)), HN⟩
  case round =>
    clear HN
    obtain ⟨k, rfl, hk, hall, HN⟩ := hrel
    have bn := drew_below HN.out
    by_cases hlt : k < l.length
    · obtain ⟨⟨t, z, u, v⟩, hx⟩ := at_lt hlt
      obtain ⟨⟨t', z', u', v'⟩, hy⟩ := at_lt (show k < m.length by have := LM.out; omega)
      have gk : (k : Int) < (l.length : Int) := by omega
      have gk' : (k : Int) < (m.length : Int) := by have := LM.out; omega
      by_cases he : t = t' ∧ z = z' ∧ u = u' ∧ v = v'
      · obtain ⟨rfl, rfl, rfl, rfl⟩ := he
        obtain ⟨rb, ro, rfl, -, r0, r1, r2, r3⟩ := four_at (H.out.below bn) hx
        obtain ⟨sb, so, rfl, -, s0, s1, s2, s3⟩ := four_at (H'.out.below bn) hy
        have E := fun W => neq_fr_same t z u v W
        have N := Lib.hid (eq_more hall.out hx hy (decide_eq_true rfl))
        clear hx hy hall bn hk hlt
        go_wp2_with fail
        go_quiet (fail)
        have hq := drew_on HN nq
        generalize wr.drewN nq = w9 at hq ⊢
        clear HN
        go_wp2_with fail
        go_roundw
        case rel => exact ⟨k + 1, by go_num, by omega, N, hq⟩
        case measure => simp [intOf]; omega
      · obtain ⟨rb, ro, rfl, -, r0, r1, r2, r3⟩ := four_at (H.out.below bn) hx
        obtain ⟨sb, so, rfl, -, s0, s1, s2, s3⟩ := four_at (H'.out.below bn) hy
        have E := fun W => neq_fr_no t t' z z' u u' v v' (he) W
        have R : Hid (V = false) := Lib.hid (by rw [← HV.out]; exact eq_diff hx hy (decide_eq_false (fun g => he (by cases g; exact ⟨rfl, rfl, rfl, rfl⟩))))
        clear hx hy hall bn hk hlt he
        go_wp2_with fail
        go_quiet (fail)
        have hq := drew_on HN nq
        generalize wr.drewN nq = w9 at hq ⊢
        go_wp2_with fail
        go_ret
        exact ⟨ret_bool R.out.symm, hq.out⟩
    · have dk : decide (k < l.length) = false := by rw [decide_eq_false_iff_not]; exact hlt
      have R : Hid (V = true) := Lib.hid (by rw [← HV.out]; exact eq_end LM.out (fun j x y hj => hall.out j x y (by omega)))
      clear hall hlt hk
      go_wp2_with fail
      go_ret
      exact ⟨ret_bool R.out.symm, HN.out⟩
set_option maxRecDepth 100000 in
set_option maxHeartbeats 2000000 in
theorem eqth_any (va vb : Value) (l m : List S19.Th) (hl : l.length ≤ 1000000) (w : World) (h : S19.LstH w va l) (h' : S19.LstH w vb m) : Calls Tryz.prog 37 #[va, vb] w fun e w' => e = .returned (.bool (eqB eTh l m)) ∧ ∃ m, w' = w.drewN m := by
  have H := Lib.hid h
  have H' := Lib.hid h'
  obtain ⟨A, n, rfl, -, -, -⟩ := h
  obtain ⟨A', n', rfl, -, -, -⟩ := h'
  obtain ⟨V, hV⟩ : ∃ q, eqB eTh l m = q := ⟨_, rfl⟩
  rw [hV]
  have HV := Lib.hid hV
  clear hV
  by_cases hn : l.length ≠ m.length
  · have R : Hid (V = false) := Lib.hid (by rw [← HV.out]; exact eq_len hn)
    have g : ((l.length : Int) != (m.length : Int)) = true := bne_true (by omega)
    clear hn
    go_enter Tryz.func37, Tryz.ntmps37
    go_wp2_with fail
    go_ret
    exact ⟨ret_bool R.out.symm, 0, rfl⟩
  have hm := Decidable.not_not.1 hn
  clear hn
  have g : ((l.length : Int) != (m.length : Int)) = false := neq_false (by omega)
  have LM := Lib.hid hm
  clear hm
  have HN : Hid (∃ n, w = w.drewN n) := Lib.hid ⟨0, rfl⟩
  go_enter Tryz.func37, Tryz.ntmps37
  go_wp2_with fail
  clear g
  go_loopw [13] (fun i wr => ∃ k : Nat, i = .int .i64 k ∧ k ≤ l.length ∧ Hid (∀ (j : Nat) x y, j < k → l[j]? = some x → m[j]? = some y → eTh x y = true) ∧ Hid (∃ n, wr = w.drewN n)) (fun i _ => l.length - (intOf i).toNat)
  case atStart => exact ⟨0, rfl, Nat.zero_le _, Lib.hid (fun j x y h => absurd h (Nat.not_lt_zero _)), HN⟩
  case round =>
    clear HN
    obtain ⟨k, rfl, hk, hall, HN⟩ := hrel
    have bn := drew_below HN.out
    by_cases hlt : k < l.length
    · obtain ⟨⟨z, u⟩, hx⟩ := at_lt hlt
      obtain ⟨⟨z', u'⟩, hy⟩ := at_lt (show k < m.length by have := LM.out; omega)
      have gk : (k : Int) < (l.length : Int) := by omega
      have gk' : (k : Int) < (m.length : Int) := by have := LM.out; omega
      by_cases he : z = z' ∧ u = u'
      · obtain ⟨rfl, rfl⟩ := he
        obtain ⟨rb, ro, rfl, -, r0, r1⟩ := S19.two_hh (H.out.below bn) hx
        obtain ⟨sb, so, rfl, -, s0, s1⟩ := S19.two_hh (H'.out.below bn) hy
        have E := fun W => neq_th_same z u W
        have N := Lib.hid (eq_more hall.out hx hy (decide_eq_true rfl))
        clear hx hy hall bn hk hlt
        go_wp2_with fail
        go_quiet (fail)
        have hq := drew_on HN nq
        generalize wr.drewN nq = w9 at hq ⊢
        clear HN
        go_wp2_with fail
        go_roundw
        case rel => exact ⟨k + 1, by go_num, by omega, N, hq⟩
        case measure => simp [intOf]; omega
      · obtain ⟨rb, ro, rfl, -, r0, r1⟩ := S19.two_hh (H.out.below bn) hx
        obtain ⟨sb, so, rfl, -, s0, s1⟩ := S19.two_hh (H'.out.below bn) hy
        have E := fun W => neq_th_no z z' u u' (he) W
        have R : Hid (V = false) := Lib.hid (by rw [← HV.out]; exact eq_diff hx hy (decide_eq_false (fun g => he (by cases g; exact ⟨rfl, rfl⟩))))
        clear hx hy hall bn hk hlt he
        go_wp2_with fail
        go_quiet (fail)
        have hq := drew_on HN nq
        generalize wr.drewN nq = w9 at hq ⊢
        go_wp2_with fail
        go_ret
        exact ⟨ret_bool R.out.symm, hq.out⟩
    · have dk : decide (k < l.length) = false := by rw [decide_eq_false_iff_not]; exact hlt
      have R : Hid (V = true) := Lib.hid (by rw [← HV.out]; exact eq_end LM.out (fun j x y hj => hall.out j x y (by omega)))
      clear hall hlt hk
      go_wp2_with fail
      go_ret
      exact ⟨ret_bool R.out.symm, HN.out⟩
set_option maxRecDepth 100000 in
set_option maxHeartbeats 2000000 in
theorem eqgu_any (va vb : Value) (l m : List S19.Gt) (hl : l.length ≤ 1000000) (w : World) (h : S19.LstU w va l) (h' : S19.LstU w vb m) : Calls Tryz.prog 38 #[va, vb] w fun e w' => e = .returned (.bool (eqB eGu l m)) ∧ ∃ m, w' = w.drewN m := by
  have H := Lib.hid h
  have H' := Lib.hid h'
  obtain ⟨A, n, rfl, -, -, -⟩ := h
  obtain ⟨A', n', rfl, -, -, -⟩ := h'
  obtain ⟨V, hV⟩ : ∃ q, eqB eGu l m = q := ⟨_, rfl⟩
  rw [hV]
  have HV := Lib.hid hV
  clear hV
  by_cases hn : l.length ≠ m.length
  · have R : Hid (V = false) := Lib.hid (by rw [← HV.out]; exact eq_len hn)
    have g : ((l.length : Int) != (m.length : Int)) = true := bne_true (by omega)
    clear hn
    go_enter Tryz.func38, Tryz.ntmps38
    go_wp2_with fail
    go_ret
    exact ⟨ret_bool R.out.symm, 0, rfl⟩
  have hm := Decidable.not_not.1 hn
  clear hn
  have g : ((l.length : Int) != (m.length : Int)) = false := neq_false (by omega)
  have LM := Lib.hid hm
  clear hm
  have HN : Hid (∃ n, w = w.drewN n) := Lib.hid ⟨0, rfl⟩
  go_enter Tryz.func38, Tryz.ntmps38
  go_wp2_with fail
  clear g
  go_loopw [13] (fun i wr => ∃ k : Nat, i = .int .i64 k ∧ k ≤ l.length ∧ Hid (∀ (j : Nat) x y, j < k → l[j]? = some x → m[j]? = some y → eGu x y = true) ∧ Hid (∃ n, wr = w.drewN n)) (fun i _ => l.length - (intOf i).toNat)
  case atStart => exact ⟨0, rfl, Nat.zero_le _, Lib.hid (fun j x y h => absurd h (Nat.not_lt_zero _)), HN⟩
  case round =>
    clear HN
    obtain ⟨k, rfl, hk, hall, HN⟩ := hrel
    have bn := drew_below HN.out
    by_cases hlt : k < l.length
    · obtain ⟨⟨z, u, v⟩, hx⟩ := at_lt hlt
      obtain ⟨⟨z', u', v'⟩, hy⟩ := at_lt (show k < m.length by have := LM.out; omega)
      have gk : (k : Int) < (l.length : Int) := by omega
      have gk' : (k : Int) < (m.length : Int) := by have := LM.out; omega
      by_cases he : z = z' ∧ u = u' ∧ v = v'
      · obtain ⟨rfl, rfl, rfl⟩ := he
        obtain ⟨rb, ro, rfl, -, r0, r1, r2⟩ := S19.three_gg (H.out.below bn) hx
        obtain ⟨sb, so, rfl, -, s0, s1, s2⟩ := S19.three_gg (H'.out.below bn) hy
        have E := fun W => neq_gu_same z u v W
        have N := Lib.hid (eq_more hall.out hx hy (decide_eq_true rfl))
        clear hx hy hall bn hk hlt
        go_wp2_with fail
        go_quiet (fail)
        have hq := drew_on HN nq
        generalize wr.drewN nq = w9 at hq ⊢
        clear HN
        go_wp2_with fail
        go_roundw
        case rel => exact ⟨k + 1, by go_num, by omega, N, hq⟩
        case measure => simp [intOf]; omega
      · obtain ⟨rb, ro, rfl, -, r0, r1, r2⟩ := S19.three_gg (H.out.below bn) hx
        obtain ⟨sb, so, rfl, -, s0, s1, s2⟩ := S19.three_gg (H'.out.below bn) hy
        have E := fun W => neq_gu_no z z' u u' v v' (he) W
        have R : Hid (V = false) := Lib.hid (by rw [← HV.out]; exact eq_diff hx hy (decide_eq_false (fun g => he (by cases g; exact ⟨rfl, rfl, rfl⟩))))
        clear hx hy hall bn hk hlt he
        go_wp2_with fail
        go_quiet (fail)
        have hq := drew_on HN nq
        generalize wr.drewN nq = w9 at hq ⊢
        go_wp2_with fail
        go_ret
        exact ⟨ret_bool R.out.symm, hq.out⟩
    · have dk : decide (k < l.length) = false := by rw [decide_eq_false_iff_not]; exact hlt
      have R : Hid (V = true) := Lib.hid (by rw [← HV.out]; exact eq_end LM.out (fun j x y hj => hall.out j x y (by omega)))
      clear hall hlt hk
      go_wp2_with fail
      go_ret
      exact ⟨ret_bool R.out.symm, HN.out⟩
set_option maxRecDepth 100000 in
set_option maxHeartbeats 2000000 in
theorem eqpa_any (va vb : Value) (l m : List S20.Fp) (hl : l.length ≤ 1000000) (w : World) (h : S20.LstF w va l) (h' : S20.LstF w vb m) : Calls Tryz.prog 39 #[va, vb] w fun e w' => e = .returned (.bool (eqB ePa l m)) ∧ ∃ m, w' = w.drewN m := by
  have H := Lib.hid h
  have H' := Lib.hid h'
  obtain ⟨A, n, rfl, -, -, -⟩ := h
  obtain ⟨A', n', rfl, -, -, -⟩ := h'
  obtain ⟨V, hV⟩ : ∃ q, eqB ePa l m = q := ⟨_, rfl⟩
  rw [hV]
  have HV := Lib.hid hV
  clear hV
  by_cases hn : l.length ≠ m.length
  · have R : Hid (V = false) := Lib.hid (by rw [← HV.out]; exact eq_len hn)
    have g : ((l.length : Int) != (m.length : Int)) = true := bne_true (by omega)
    clear hn
    go_enter Tryz.func39, Tryz.ntmps39
    go_wp2_with fail
    go_ret
    exact ⟨ret_bool R.out.symm, 0, rfl⟩
  have hm := Decidable.not_not.1 hn
  clear hn
  have g : ((l.length : Int) != (m.length : Int)) = false := neq_false (by omega)
  have LM := Lib.hid hm
  clear hm
  have HN : Hid (∃ n, w = w.drewN n) := Lib.hid ⟨0, rfl⟩
  go_enter Tryz.func39, Tryz.ntmps39
  go_wp2_with fail
  clear g
  go_loopw [13] (fun i wr => ∃ k : Nat, i = .int .i64 k ∧ k ≤ l.length ∧ Hid (∀ (j : Nat) x y, j < k → l[j]? = some x → m[j]? = some y → ePa x y = true) ∧ Hid (∃ n, wr = w.drewN n)) (fun i _ => l.length - (intOf i).toNat)
  case atStart => exact ⟨0, rfl, Nat.zero_le _, Lib.hid (fun j x y h => absurd h (Nat.not_lt_zero _)), HN⟩
  case round =>
    clear HN
    obtain ⟨k, rfl, hk, hall, HN⟩ := hrel
    have bn := drew_below HN.out
    by_cases hlt : k < l.length
    · obtain ⟨⟨z, u, v, f⟩, hx⟩ := at_lt hlt
      obtain ⟨⟨z', u', v', f'⟩, hy⟩ := at_lt (show k < m.length by have := LM.out; omega)
      have gk : (k : Int) < (l.length : Int) := by omega
      have gk' : (k : Int) < (m.length : Int) := by have := LM.out; omega
      by_cases he : z = z' ∧ u = u' ∧ v = v' ∧ f = f'
      · obtain ⟨rfl, rfl, rfl, rfl⟩ := he
        obtain ⟨rb, ro, rfl, -, r0, r1, r2, r3⟩ := S20.four_at (H.out.below bn) hx
        obtain ⟨sb, so, rfl, -, s0, s1, s2, s3⟩ := S20.four_at (H'.out.below bn) hy
        have E := fun W => neq_pa_same z u v f W
        have N := Lib.hid (eq_more hall.out hx hy (decide_eq_true rfl))
        clear hx hy hall bn hk hlt
        go_wp2_with fail
        go_quiet (fail)
        have hq := drew_on HN nq
        generalize wr.drewN nq = w9 at hq ⊢
        clear HN
        go_wp2_with fail
        go_roundw
        case rel => exact ⟨k + 1, by go_num, by omega, N, hq⟩
        case measure => simp [intOf]; omega
      · obtain ⟨rb, ro, rfl, -, r0, r1, r2, r3⟩ := S20.four_at (H.out.below bn) hx
        obtain ⟨sb, so, rfl, -, s0, s1, s2, s3⟩ := S20.four_at (H'.out.below bn) hy
        have E := fun W => neq_pa_no z z' u u' v v' f f' (he) W
        have R : Hid (V = false) := Lib.hid (by rw [← HV.out]; exact eq_diff hx hy (decide_eq_false (fun g => he (by cases g; exact ⟨rfl, rfl, rfl, rfl⟩))))
        clear hx hy hall bn hk hlt he
        go_wp2_with fail
        go_quiet (fail)
        have hq := drew_on HN nq
        generalize wr.drewN nq = w9 at hq ⊢
        go_wp2_with fail
        go_ret
        exact ⟨ret_bool R.out.symm, hq.out⟩
    · have dk : decide (k < l.length) = false := by rw [decide_eq_false_iff_not]; exact hlt
      have R : Hid (V = true) := Lib.hid (by rw [← HV.out]; exact eq_end LM.out (fun j x y hj => hall.out j x y (by omega)))
      clear hall hlt hk
      go_wp2_with fail
      go_ret
      exact ⟨ret_bool R.out.symm, HN.out⟩
set_option maxRecDepth 100000 in
set_option maxHeartbeats 2000000 in
theorem eqpr_any (va vb : Value) (l m : List S21.Pd) (hl : l.length ≤ 1000000) (w : World) (h : S21.LstPd w va l) (h' : S21.LstPd w vb m) : Calls Tryz.prog 72 #[va, vb] w fun e w' => e = .returned (.bool (eqB ePr l m)) ∧ ∃ m, w' = w.drewN m := by
  have H := Lib.hid h
  have H' := Lib.hid h'
  obtain ⟨A, n, rfl, -, -, -⟩ := h
  obtain ⟨A', n', rfl, -, -, -⟩ := h'
  obtain ⟨V, hV⟩ : ∃ q, eqB ePr l m = q := ⟨_, rfl⟩
  rw [hV]
  have HV := Lib.hid hV
  clear hV
  by_cases hn : l.length ≠ m.length
  · have R : Hid (V = false) := Lib.hid (by rw [← HV.out]; exact eq_len hn)
    have g : ((l.length : Int) != (m.length : Int)) = true := bne_true (by omega)
    clear hn
    go_enter Tryz.func72, Tryz.ntmps72
    go_wp2_with fail
    go_ret
    exact ⟨ret_bool R.out.symm, 0, rfl⟩
  have hm := Decidable.not_not.1 hn
  clear hn
  have g : ((l.length : Int) != (m.length : Int)) = false := neq_false (by omega)
  have LM := Lib.hid hm
  clear hm
  have HN : Hid (∃ n, w = w.drewN n) := Lib.hid ⟨0, rfl⟩
  go_enter Tryz.func72, Tryz.ntmps72
  go_wp2_with fail
  clear g
  go_loopw [13] (fun i wr => ∃ k : Nat, i = .int .i64 k ∧ k ≤ l.length ∧ Hid (∀ (j : Nat) x y, j < k → l[j]? = some x → m[j]? = some y → ePr x y = true) ∧ Hid (∃ n, wr = w.drewN n)) (fun i _ => l.length - (intOf i).toNat)
  case atStart => exact ⟨0, rfl, Nat.zero_le _, Lib.hid (fun j x y h => absurd h (Nat.not_lt_zero _)), HN⟩
  case round =>
    clear HN
    obtain ⟨k, rfl, hk, hall, HN⟩ := hrel
    have bn := drew_below HN.out
    by_cases hlt : k < l.length
    · obtain ⟨⟨id, z, u, v, t, q⟩, hx⟩ := at_lt hlt
      obtain ⟨⟨id', z', u', v', t', q'⟩, hy⟩ := at_lt (show k < m.length by have := LM.out; omega)
      have gk : (k : Int) < (l.length : Int) := by omega
      have gk' : (k : Int) < (m.length : Int) := by have := LM.out; omega
      by_cases he : id = id' ∧ z = z' ∧ u = u' ∧ v = v' ∧ t = t' ∧ q = q'
      · obtain ⟨rfl, rfl, rfl, rfl, rfl, rfl⟩ := he
        obtain ⟨nm, hnm⟩ : ∃ nm, str id = nm := ⟨_, rfl⟩
        obtain ⟨rb, ro, rfl, -, r0, r1, r2, r3, r4, r5⟩ := S21.six_at (H.out.below bn) hx hnm
        obtain ⟨sb, so, rfl, -, s0, s1, s2, s3, s4, s5⟩ := S21.six_at (H'.out.below bn) hy hnm
        have E := fun W => neq_pr_same nm z u v t q W
        have N := Lib.hid (eq_more hall.out hx hy (decide_eq_true rfl))
        clear hx hy hall bn hk hlt hnm
        go_wp2_with fail
        go_quiet (fail)
        have hq := drew_on HN nq
        generalize wr.drewN nq = w9 at hq ⊢
        clear HN
        go_wp2_with fail
        go_roundw
        case rel => exact ⟨k + 1, by go_num, by omega, N, hq⟩
        case measure => simp [intOf]; omega
      · obtain ⟨nm, hnm⟩ : ∃ nm, str id = nm := ⟨_, rfl⟩
        obtain ⟨nm', hnm'⟩ : ∃ nm, str id' = nm := ⟨_, rfl⟩
        obtain ⟨rb, ro, rfl, -, r0, r1, r2, r3, r4, r5⟩ := S21.six_at (H.out.below bn) hx hnm
        obtain ⟨sb, so, rfl, -, s0, s1, s2, s3, s4, s5⟩ := S21.six_at (H'.out.below bn) hy hnm'
        have E := fun W => neq_pr_no nm nm' z z' u u' v v' t t' q q' (fun g => he ⟨str_inj (by rw [hnm, hnm']; exact g.1), g.2⟩) W
        have R : Hid (V = false) := Lib.hid (by rw [← HV.out]; exact eq_diff hx hy (decide_eq_false (fun g => he (by cases g; exact ⟨rfl, rfl, rfl, rfl, rfl, rfl⟩))))
        clear hx hy hall bn hk hlt he hnm hnm'
        go_wp2_with fail
        go_quiet (fail)
        have hq := drew_on HN nq
        generalize wr.drewN nq = w9 at hq ⊢
        go_wp2_with fail
        go_ret
        exact ⟨ret_bool R.out.symm, hq.out⟩
    · have dk : decide (k < l.length) = false := by rw [decide_eq_false_iff_not]; exact hlt
      have R : Hid (V = true) := Lib.hid (by rw [← HV.out]; exact eq_end LM.out (fun j x y hj => hall.out j x y (by omega)))
      clear hall hlt hk
      go_wp2_with fail
      go_ret
      exact ⟨ret_bool R.out.symm, HN.out⟩
set_option maxRecDepth 100000 in
set_option maxHeartbeats 2000000 in
theorem eqtr_any (id id' : List UInt8) (r ca r' ca' : Int) (f f' : Bool) (cl cl' : List Cl) (B B' : Option Addr) (mm mm' : Nat) (v v' : Value) (hl : cl.length ≤ 1000000) (nm nm' : ByteArray) (hnm : str id = nm) (hnm' : str id' = nm') (w : World) (h : LstC w (.slice B cl.length mm) cl) (h' : LstC w (.slice B' cl'.length mm') cl') : Calls Tryz.prog 35 #[.agg #[.string nm, .int .i64 r, .int .i64 ca, .bool f, .slice B cl.length mm], .agg #[.string nm', .int .i64 r', .int .i64 ca', .bool f', .slice B' cl'.length mm']] w fun e w' => e = .returned (.bool (eTr (id, r, ca, f, v, cl) (id', r', ca', f', v', cl'))) ∧ Below w.heap.size w w' := by
  obtain ⟨w7, hw7, z7, ra, rb, b7⟩ := box_both w (boxT nm r ca f (.slice B cl.length mm)) (boxT nm' r' ca' f' (.slice B' cl'.length mm'))
  have B7 := Lib.hid b7
  have E := Lib.hid (eqcc_any (.slice B cl.length mm) (.slice B' cl'.length mm') cl cl' hl w7 (h.below b7) (h'.below b7))
  have p0 := cell_of_row w7 _ 0 _ _ _ ra
  have q0 := cell_of_row w7 _ 0 _ _ _ rb
  have p1 := cell_of_row w7 _ 1 _ _ _ ra
  have q1 := cell_of_row w7 _ 1 _ _ _ rb
  have p2 := cell_of_row w7 _ 2 _ _ _ ra
  have q2 := cell_of_row w7 _ 2 _ _ _ rb
  have p3 := cell_of_row w7 _ 3 _ _ _ ra
  have q3 := cell_of_row w7 _ 3 _ _ _ rb
  have p4 := cell_of_row w7 _ 4 _ _ _ ra
  have q4 := cell_of_row w7 _ 4 _ _ _ rb
  replace p0 : w7.cell? ⟨w.heap.size, 0, none⟩ = some (.string nm) := p0
  replace q0 : w7.cell? ⟨w.heap.size + 1, 0, none⟩ = some (.string nm') := q0
  replace p1 : w7.cell? ⟨w.heap.size, 1, none⟩ = some (.int .i64 r) := p1
  replace q1 : w7.cell? ⟨w.heap.size + 1, 1, none⟩ = some (.int .i64 r') := q1
  replace p2 : w7.cell? ⟨w.heap.size, 2, none⟩ = some (.int .i64 ca) := p2
  replace q2 : w7.cell? ⟨w.heap.size + 1, 2, none⟩ = some (.int .i64 ca') := q2
  replace p3 : w7.cell? ⟨w.heap.size, 3, none⟩ = some (.bool f) := p3
  replace q3 : w7.cell? ⟨w.heap.size + 1, 3, none⟩ = some (.bool f') := q3
  replace p4 : w7.cell? ⟨w.heap.size, 4, none⟩ = some (.slice B cl.length mm) := p4
  replace q4 : w7.cell? ⟨w.heap.size + 1, 4, none⟩ = some (.slice B' cl'.length mm') := q4
  obtain ⟨V, hV⟩ : ∃ q, eTr (id, r, ca, f, v, cl) (id', r', ca', f', v', cl') = q := ⟨_, rfl⟩
  rw [hV]
  have HV := Lib.hid hV
  clear b7 z7 ra rb h h' hV
  by_cases e0 : id = id'
  case neg =>
    have gs := bytes_ne (a := nm) (b := nm') (fun g => e0 (str_inj (by rw [hnm, hnm', g])))
    have R : Hid (V = false) := Lib.hid (by rw [← HV.out]; exact tr_head (fun g => e0 g.1))
    clear e0 hnm hnm' E
    go_enter Tryz.func35, Tryz.ntmps35
    go_wp2_with fail
    go_ret
    exact ⟨ret_bool R.out.symm, B7.out⟩
  have gs := bytes_eq (a := nm) (b := nm') (by rw [← hnm, ← hnm', e0])
  by_cases e1 : r = r'
  case neg =>
    have g1 : (r == r') = false := beq_false e1
    have R : Hid (V = false) := Lib.hid (by rw [← HV.out]; exact tr_head (fun g => e1 g.2.1))
    clear e0 e1 hnm hnm' E
    go_enter Tryz.func35, Tryz.ntmps35
    go_wp2_with fail
    go_ret
    exact ⟨ret_bool R.out.symm, B7.out⟩
  have g1 : (r == r') = true := beq_true e1
  by_cases e2 : ca = ca'
  case neg =>
    have g2 : (ca == ca') = false := beq_false e2
    have R : Hid (V = false) := Lib.hid (by rw [← HV.out]; exact tr_head (fun g => e2 g.2.2.1))
    clear e0 e1 e2 hnm hnm' E
    go_enter Tryz.func35, Tryz.ntmps35
    go_wp2_with fail
    go_ret
    exact ⟨ret_bool R.out.symm, B7.out⟩
  have g2 : (ca == ca') = true := beq_true e2
  by_cases e3 : f = f'
  case neg =>
    have g3 : (f == f') = false := by cases f <;> cases f' <;> simp at e3 ⊢
    have R : Hid (V = false) := Lib.hid (by rw [← HV.out]; exact tr_head (fun g => e3 g.2.2.2))
    clear e0 e1 e2 e3 hnm hnm' E
    go_enter Tryz.func35, Tryz.ntmps35
    go_wp2_with fail
    go_ret
    exact ⟨ret_bool R.out.symm, B7.out⟩
  have g3 : (f == f') = true := by rw [e3]; cases f' <;> rfl
  have R : Hid (V = eqB eCc cl cl') := Lib.hid (by rw [← HV.out]; unfold eTr; rw [decide_eq_true ⟨e0, e1, e2, e3⟩]; rfl)
  clear e0 e1 e2 e3 hnm hnm'
  go_enter Tryz.func35, Tryz.ntmps35
  go_wp2_with fail
  refine E.out.mono ?_
  rintro e w8 ⟨rfl, n8, h8⟩
  have B8 := Lib.hid (drew_below ⟨n8, h8⟩)
  clear h8 E
  go_wp2_with fail
  go_ret
  exact ⟨ret_bool R.out.symm, B7.out.trans (B8.out.mono B7.out.size)⟩
theorem eqtr_enter : ∀ args W, (callFunc 35 args).run Tryz.prog W = .ok (.enter 35 args) W := enter_of Tryz.func35 (by kernel_rfl) (by kernel_rfl)
set_option maxRecDepth 100000 in
set_option maxHeartbeats 4000000 in
theorem eqtrs_any (va vb : Value) (l m : List Tp) (hl : l.length ≤ 1000000) (hc : ∀ x ∈ l, (clT x).length ≤ 1000000) (w : World) (h : LstTp w va l) (h' : LstTp w vb m) : Calls Tryz.prog 34 #[va, vb, .func (.func 35) #[] #[]] w fun e w' => e = .returned (.bool (eqB eTr l m)) ∧ Below w.heap.size w w' := by
  have H := Lib.hid h
  have H' := Lib.hid h'
  have HC := Lib.hid hc
  obtain ⟨⟨A, n, rfl, -, -, -⟩, -⟩ := h
  obtain ⟨⟨A', n', rfl, -, -, -⟩, -⟩ := h'
  have ce := eqtr_enter
  obtain ⟨V, hV⟩ : ∃ q, eqB eTr l m = q := ⟨_, rfl⟩
  rw [hV]
  have HV := Lib.hid hV
  clear hV hc
  by_cases hn : l.length ≠ m.length
  · have R : Hid (V = false) := Lib.hid (by rw [← HV.out]; exact eq_len hn)
    have g : ((l.length : Int) != (m.length : Int)) = true := bne_true (by omega)
    clear hn ce
    go_enter Tryz.func34, Tryz.ntmps34
    go_wp2_with fail
    go_ret
    exact ⟨ret_bool R.out.symm, Below.refl _ _⟩
  have hm := Decidable.not_not.1 hn
  clear hn
  have g : ((l.length : Int) != (m.length : Int)) = false := neq_false (by omega)
  have LM := Lib.hid hm
  clear hm
  have HN : Hid (Below w.heap.size w w) := Lib.hid (Below.refl _ _)
  go_enter Tryz.func34, Tryz.ntmps34
  go_wp2_with fail
  clear g
  go_loopw [17] (fun i wr => ∃ k : Nat, i = .int .i64 k ∧ k ≤ l.length ∧ Hid (∀ (j : Nat) x y, j < k → l[j]? = some x → m[j]? = some y → eTr x y = true) ∧ Hid (Below w.heap.size w wr)) (fun i _ => l.length - (intOf i).toNat)
  case atStart => exact ⟨0, rfl, Nat.zero_le _, Lib.hid (fun j x y h => absurd h (Nat.not_lt_zero _)), HN⟩
  case round =>
    clear HN
    obtain ⟨k, rfl, hk, hall, HN⟩ := hrel
    by_cases hlt : k < l.length
    · obtain ⟨⟨id, r, ca, f, v, cl⟩, hx⟩ := at_lt hlt
      obtain ⟨⟨id', r', ca', f', v', cl'⟩, hy⟩ := at_lt (show k < m.length by have := LM.out; omega)
      obtain ⟨nm, hnm⟩ : ∃ nm, str id = nm := ⟨_, rfl⟩
      obtain ⟨nm', hnm'⟩ : ∃ nm, str id' = nm := ⟨_, rfl⟩
      obtain ⟨b, o, B, mm, rfl, rfl, hb, r0, r1, r2, r3, r4, lc, -, -⟩ := trip_at (H.out.below HN.out) hx hnm
      have h1000 : cl.length ≤ 1000000 := HC.out _ (List.mem_of_getElem? hx)
      have gk : (k : Int) < (l.length : Int) := by omega
      have gk' : (k : Int) < (m.length : Int) := by have := LM.out; omega
      obtain ⟨w7, hw7⟩ : ∃ W, wr.alloc (boxT nm r ca f (.slice B cl.length mm)) = W := ⟨_, rfl⟩
      have b7 : Below wr.heap.size wr w7 := by rw [← hw7]; exact (Below.refl _ _).alloc (Nat.le_refl _) _
      have y7 : w7.heap[wr.heap.size]? = some (boxT nm r ca f (.slice B cl.length mm)) := by rw [← hw7]; exact heap_alloc_new wr _
      have B7 := HN.out.trans (b7.mono HN.out.size)
      obtain ⟨b', o', B', mm', rfl, rfl, hb', s0, s1, s2, s3, s4, lc', -, -⟩ := trip_at (H'.out.below B7) hy hnm'
      obtain ⟨w8, hw8⟩ : ∃ W, w7.alloc (boxT nm' r' ca' f' (.slice B' cl'.length mm')) = W := ⟨_, rfl⟩
      have b8 : Below w7.heap.size w7 w8 := by rw [← hw8]; exact (Below.refl _ _).alloc (Nat.le_refl _) _
      have y8 : w8.heap[w7.heap.size]? = some (boxT nm' r' ca' f' (.slice B' cl'.length mm')) := by rw [← hw8]; exact heap_alloc_new w7 _
      have y9 := (b8.block _ (Array.getElem?_eq_some_iff.1 y7).1).trans y7
      have C := Lib.hid (eqtr_any id id' r ca r' ca' f f' cl cl' B B' mm mm' (.slice B cl.length mm) (.slice B' cl'.length mm') h1000 nm nm' hnm hnm' w8 ((lc.below b7).below b8) (lc'.below b8))
      have B8 := Lib.hid (B7.trans (b8.mono B7.size))
      have p0 : w8.cell? ⟨wr.heap.size, 0, none⟩ = some (.string nm) := cell_of_row w8 _ 0 _ _ _ y9
      have q0 : w8.cell? ⟨w7.heap.size, 0, none⟩ = some (.string nm') := cell_of_row w8 _ 0 _ _ _ y8
      have p1 : w8.cell? ⟨wr.heap.size, 1, none⟩ = some (.int .i64 r) := cell_of_row w8 _ 1 _ _ _ y9
      have q1 : w8.cell? ⟨w7.heap.size, 1, none⟩ = some (.int .i64 r') := cell_of_row w8 _ 1 _ _ _ y8
      have p2 : w8.cell? ⟨wr.heap.size, 2, none⟩ = some (.int .i64 ca) := cell_of_row w8 _ 2 _ _ _ y9
      have q2 : w8.cell? ⟨w7.heap.size, 2, none⟩ = some (.int .i64 ca') := cell_of_row w8 _ 2 _ _ _ y8
      have p3 : w8.cell? ⟨wr.heap.size, 3, none⟩ = some (.bool f) := cell_of_row w8 _ 3 _ _ _ y9
      have q3 : w8.cell? ⟨w7.heap.size, 3, none⟩ = some (.bool f') := cell_of_row w8 _ 3 _ _ _ y8
      have p4 : w8.cell? ⟨wr.heap.size, 4, none⟩ = some (.slice B cl.length mm) := cell_of_row w8 _ 4 _ _ _ y9
      have q4 : w8.cell? ⟨w7.heap.size, 4, none⟩ = some (.slice B' cl'.length mm') := cell_of_row w8 _ 4 _ _ _ y8
      obtain ⟨z, hz⟩ : ∃ q, eTr (id, r, ca, f, .slice B cl.length mm, cl) (id', r', ca', f', .slice B' cl'.length mm', cl') = q := ⟨_, rfl⟩
      rw [hz] at C
      clear b7 b8 y7 y8 y9 lc lc' hb hb' hnm hnm' B7 h1000 hlt hk
      cases z
      · have R : Hid (V = false) := Lib.hid (by rw [← HV.out]; exact eq_diff hx hy hz)
        clear hx hy hall hz
        go_wp2_with fail
        refine C.out.mono ?_
        rintro e w9 ⟨rfl, b9⟩
        have B9 := Lib.hid (B8.out.trans (b9.mono B8.out.size))
        clear b9 C
        go_wp2_with fail
        go_ret
        exact ⟨ret_bool R.out.symm, B9.out⟩
      · have N := Lib.hid (eq_more hall.out hx hy hz)
        clear hx hy hall hz
        go_wp2_with fail
        refine C.out.mono ?_
        rintro e w9 ⟨rfl, b9⟩
        have B9 := Lib.hid (B8.out.trans (b9.mono B8.out.size))
        clear b9 C
        go_wp2_with fail
        go_roundw
        case rel => exact ⟨k + 1, by go_num, by omega, N, B9⟩
        case measure => simp [intOf]; omega
    · have dk : decide (k < l.length) = false := by rw [decide_eq_false_iff_not]; exact hlt
      have R : Hid (V = true) := Lib.hid (by rw [← HV.out]; exact eq_end LM.out (fun j x y hj => hall.out j x y (by omega)))
      clear hall hlt hk
      go_wp2_with fail
      go_ret
      exact ⟨ret_bool R.out.symm, HN.out⟩
set_option maxRecDepth 100000 in
set_option maxHeartbeats 2000000 in
theorem eqfa_any (A A' : Option Addr) (n n' : Nat) (l l' : List S21.Pd) (d wi cp d' wi' cp' : Int) (hl : l.length ≤ 1000000) (w : World) (h : S21.LstPd w (.slice A l.length n) l) (h' : S21.LstPd w (.slice A' l'.length n') l') : Calls Tryz.prog 40 #[.agg #[.slice A l.length n, .int .i64 d, .int .i64 wi, .int .i64 cp], .agg #[.slice A' l'.length n', .int .i64 d', .int .i64 wi', .int .i64 cp']] w fun e w' => e = .returned (.bool (eqB ePr l l' && decide (d = d' ∧ wi = wi' ∧ cp = cp'))) ∧ Below w.heap.size w w' := by
  obtain ⟨w7, hw7, z7, ra, rb, b7⟩ := box_both w (.cells #[.slice A l.length n, .int .i64 d, .int .i64 wi, .int .i64 cp] 33 (0, 0)) (.cells #[.slice A' l'.length n', .int .i64 d', .int .i64 wi', .int .i64 cp'] 33 (0, 0))
  have B7 := Lib.hid b7
  have E := Lib.hid (eqpr_any (.slice A l.length n) (.slice A' l'.length n') l l' hl w7 (h.below b7) (h'.below b7))
  have p0 : w7.cell? ⟨w.heap.size, 0, none⟩ = some (.slice A l.length n) := cell_of_row w7 _ 0 _ _ _ ra
  have q0 : w7.cell? ⟨w.heap.size + 1, 0, none⟩ = some (.slice A' l'.length n') := cell_of_row w7 _ 0 _ _ _ rb
  have p1 : w7.cell? ⟨w.heap.size, 1, none⟩ = some (.int .i64 d) := cell_of_row w7 _ 1 _ _ _ ra
  have q1 : w7.cell? ⟨w.heap.size + 1, 1, none⟩ = some (.int .i64 d') := cell_of_row w7 _ 1 _ _ _ rb
  have p2 : w7.cell? ⟨w.heap.size, 2, none⟩ = some (.int .i64 wi) := cell_of_row w7 _ 2 _ _ _ ra
  have q2 : w7.cell? ⟨w.heap.size + 1, 2, none⟩ = some (.int .i64 wi') := cell_of_row w7 _ 2 _ _ _ rb
  have p3 : w7.cell? ⟨w.heap.size, 3, none⟩ = some (.int .i64 cp) := cell_of_row w7 _ 3 _ _ _ ra
  have q3 : w7.cell? ⟨w.heap.size + 1, 3, none⟩ = some (.int .i64 cp') := cell_of_row w7 _ 3 _ _ _ rb
  have RA := Lib.hid ra
  have RB := Lib.hid rb
  have LA : Hid (w.heap.size < w7.heap.size) := Lib.hid (by omega)
  have LB : Hid (w.heap.size + 1 < w7.heap.size) := Lib.hid (by omega)
  obtain ⟨V, hV⟩ : ∃ q, (eqB ePr l l' && decide (d = d' ∧ wi = wi' ∧ cp = cp')) = q := ⟨_, rfl⟩
  rw [hV]
  have HV := Lib.hid hV
  obtain ⟨x, hx⟩ : ∃ q, eqB ePr l l' = q := ⟨_, rfl⟩
  rw [hx] at E
  have X := Lib.hid hx
  clear b7 z7 ra rb h h' hV hx
  cases x
  · have R : Hid (V = false) := Lib.hid (by rw [← HV.out, X.out]; rfl)
    go_enter Tryz.func40, Tryz.ntmps40
    go_wp2_with fail
    refine E.out.mono ?_
    rintro e w8 ⟨rfl, n8, h8⟩
    have b8 := drew_below ⟨n8, h8⟩
    have B8 := Lib.hid b8
    clear p0 p1 p2 p3 q0 q1 q2 q3 h8 E
    clear b8
    go_wp2_with fail
    go_ret
    exact ⟨ret_bool R.out.symm, B7.out.trans (B8.out.mono B7.out.size)⟩
  by_cases e0 : d = d'
  case neg =>
    have g0 : (d == d') = false := beq_false e0
    have R : Hid (V = false) := Lib.hid (by rw [← HV.out, decide_eq_false (fun g => e0 g.1)]; simp)
    clear e0
    go_enter Tryz.func40, Tryz.ntmps40
    go_wp2_with fail
    refine E.out.mono ?_
    rintro e w8 ⟨rfl, n8, h8⟩
    have b8 := drew_below ⟨n8, h8⟩
    have B8 := Lib.hid b8
    clear p0 p1 p2 p3 q0 q1 q2 q3 h8 E
    have p1 : w8.cell? ⟨w.heap.size, 1, none⟩ = some (.int .i64 d) := cell_of_row w8 _ 1 _ _ _ ((b8.block _ LA.out).trans RA.out)
    have q1 : w8.cell? ⟨w.heap.size + 1, 1, none⟩ = some (.int .i64 d') := cell_of_row w8 _ 1 _ _ _ ((b8.block _ LB.out).trans RB.out)
    clear b8
    go_wp2_with fail
    go_ret
    exact ⟨ret_bool R.out.symm, B7.out.trans (B8.out.mono B7.out.size)⟩
  have g0 : (d == d') = true := beq_true e0
  by_cases e1 : wi = wi'
  case neg =>
    have g1 : (wi == wi') = false := beq_false e1
    have R : Hid (V = false) := Lib.hid (by rw [← HV.out, decide_eq_false (fun g => e1 g.2.1)]; simp)
    clear e0 e1
    go_enter Tryz.func40, Tryz.ntmps40
    go_wp2_with fail
    refine E.out.mono ?_
    rintro e w8 ⟨rfl, n8, h8⟩
    have b8 := drew_below ⟨n8, h8⟩
    have B8 := Lib.hid b8
    clear p0 p1 p2 p3 q0 q1 q2 q3 h8 E
    have p1 : w8.cell? ⟨w.heap.size, 1, none⟩ = some (.int .i64 d) := cell_of_row w8 _ 1 _ _ _ ((b8.block _ LA.out).trans RA.out)
    have q1 : w8.cell? ⟨w.heap.size + 1, 1, none⟩ = some (.int .i64 d') := cell_of_row w8 _ 1 _ _ _ ((b8.block _ LB.out).trans RB.out)
    have p2 : w8.cell? ⟨w.heap.size, 2, none⟩ = some (.int .i64 wi) := cell_of_row w8 _ 2 _ _ _ ((b8.block _ LA.out).trans RA.out)
    have q2 : w8.cell? ⟨w.heap.size + 1, 2, none⟩ = some (.int .i64 wi') := cell_of_row w8 _ 2 _ _ _ ((b8.block _ LB.out).trans RB.out)
    clear b8
    go_wp2_with fail
    go_ret
    exact ⟨ret_bool R.out.symm, B7.out.trans (B8.out.mono B7.out.size)⟩
  have g1 : (wi == wi') = true := beq_true e1
  by_cases e2 : cp = cp'
  case neg =>
    have g2 : (cp == cp') = false := beq_false e2
    have R : Hid (V = false) := Lib.hid (by rw [← HV.out, decide_eq_false (fun g => e2 g.2.2)]; simp)
    clear e0 e1 e2
    go_enter Tryz.func40, Tryz.ntmps40
    go_wp2_with fail
    refine E.out.mono ?_
    rintro e w8 ⟨rfl, n8, h8⟩
    have b8 := drew_below ⟨n8, h8⟩
    have B8 := Lib.hid b8
    clear p0 p1 p2 p3 q0 q1 q2 q3 h8 E
    have p1 : w8.cell? ⟨w.heap.size, 1, none⟩ = some (.int .i64 d) := cell_of_row w8 _ 1 _ _ _ ((b8.block _ LA.out).trans RA.out)
    have q1 : w8.cell? ⟨w.heap.size + 1, 1, none⟩ = some (.int .i64 d') := cell_of_row w8 _ 1 _ _ _ ((b8.block _ LB.out).trans RB.out)
    have p2 : w8.cell? ⟨w.heap.size, 2, none⟩ = some (.int .i64 wi) := cell_of_row w8 _ 2 _ _ _ ((b8.block _ LA.out).trans RA.out)
    have q2 : w8.cell? ⟨w.heap.size + 1, 2, none⟩ = some (.int .i64 wi') := cell_of_row w8 _ 2 _ _ _ ((b8.block _ LB.out).trans RB.out)
    have p3 : w8.cell? ⟨w.heap.size, 3, none⟩ = some (.int .i64 cp) := cell_of_row w8 _ 3 _ _ _ ((b8.block _ LA.out).trans RA.out)
    have q3 : w8.cell? ⟨w.heap.size + 1, 3, none⟩ = some (.int .i64 cp') := cell_of_row w8 _ 3 _ _ _ ((b8.block _ LB.out).trans RB.out)
    clear b8
    go_wp2_with fail
    go_ret
    exact ⟨ret_bool R.out.symm, B7.out.trans (B8.out.mono B7.out.size)⟩
  have g2 : (cp == cp') = true := beq_true e2
  have R : Hid (V = true) := Lib.hid (by rw [← HV.out, X.out, decide_eq_true ⟨e0, e1, e2⟩]; rfl)
  clear e0 e1 e2
  go_enter Tryz.func40, Tryz.ntmps40
  go_wp2_with fail
  refine E.out.mono ?_
  rintro e w8 ⟨rfl, n8, h8⟩
  have b8 := drew_below ⟨n8, h8⟩
  have B8 := Lib.hid b8
  clear p0 p1 p2 p3 q0 q1 q2 q3 h8 E
  have p1 : w8.cell? ⟨w.heap.size, 1, none⟩ = some (.int .i64 d) := cell_of_row w8 _ 1 _ _ _ ((b8.block _ LA.out).trans RA.out)
  have q1 : w8.cell? ⟨w.heap.size + 1, 1, none⟩ = some (.int .i64 d') := cell_of_row w8 _ 1 _ _ _ ((b8.block _ LB.out).trans RB.out)
  have p2 : w8.cell? ⟨w.heap.size, 2, none⟩ = some (.int .i64 wi) := cell_of_row w8 _ 2 _ _ _ ((b8.block _ LA.out).trans RA.out)
  have q2 : w8.cell? ⟨w.heap.size + 1, 2, none⟩ = some (.int .i64 wi') := cell_of_row w8 _ 2 _ _ _ ((b8.block _ LB.out).trans RB.out)
  have p3 : w8.cell? ⟨w.heap.size, 3, none⟩ = some (.int .i64 cp) := cell_of_row w8 _ 3 _ _ _ ((b8.block _ LA.out).trans RA.out)
  have q3 : w8.cell? ⟨w.heap.size + 1, 3, none⟩ = some (.int .i64 cp') := cell_of_row w8 _ 3 _ _ _ ((b8.block _ LB.out).trans RB.out)
  clear b8
  go_wp2_with fail
  go_ret
  exact ⟨ret_bool R.out.symm, B7.out.trans (B8.out.mono B7.out.size)⟩
theorem eqT_ten (T U : Tt) : eqT T U = (eqB eSt T.st U.st && (eqB eRo T.ro U.ro && (eqB eCa T.ca U.ca && (eqB eEx T.ex U.ex && (eqB eTr T.tr U.tr && (eqB eFr T.fr U.fr && (eqB eTh T.th U.th && (eqB eGu T.gu U.gu && (eqB ePa T.pa U.pa && (eqB ePr T.pr U.pr && decide (T.di = U.di ∧ T.wi = U.wi ∧ T.cp = U.cp))))))))))) := by
  unfold eqT hdT tlT
  simp only [Bool.and_assoc]
set_option maxRecDepth 100000 in
set_option maxHeartbeats 8000000 in
theorem eqC : EqC := by
  intro a a' c c' T U w hf _ h h'
  obtain ⟨⟨f0, f1, f2, f3, f4, f5, f6, f7, f8, f9⟩, hts0⟩ := few_iff.1 hf
  have hts : ∀ x ∈ T.tr, (clT x).length ≤ 1000000 := fun x hx => by have := hts0 x hx; omega
  obtain ⟨w7, hw7, z7, ra, rb, b7⟩ := box_both w (boxTt a c T) (boxTt a' c' U)
  have B7 := Lib.hid b7
  have RA := Lib.hid ra
  have RB := Lib.hid rb
  have LA : Hid (w.heap.size < w7.heap.size) := Lib.hid (by omega)
  have LB : Hid (w.heap.size + 1 < w7.heap.size) := Lib.hid (by omega)
  obtain ⟨V, hV⟩ : ∃ q, eqT T U = q := ⟨_, rfl⟩
  rw [hV]
  rw [eqT_ten] at hV
  have C0 := Lib.hid (fun W (hW : Below w7.heap.size w7 W) => eqst_any (.slice (a 0) T.st.length (c 0)) (.slice (a' 0) U.st.length (c' 0)) T.st U.st (by omega) W ((h.below b7).below hW).st ((h'.below b7).below hW).st)
  generalize eqB eSt T.st U.st = x0 at C0 hV
  have C1 := Lib.hid (fun W (hW : Below w7.heap.size w7 W) => eqro_any (.slice (a 1) T.ro.length (c 1)) (.slice (a' 1) U.ro.length (c' 1)) T.ro U.ro (by omega) W ((h.below b7).below hW).ro ((h'.below b7).below hW).ro)
  generalize eqB eRo T.ro U.ro = x1 at C1 hV
  have C2 := Lib.hid (fun W (hW : Below w7.heap.size w7 W) => eqca_any (.slice (a 2) T.ca.length (c 2)) (.slice (a' 2) U.ca.length (c' 2)) T.ca U.ca (by omega) W ((h.below b7).below hW).ca ((h'.below b7).below hW).ca)
  generalize eqB eCa T.ca U.ca = x2 at C2 hV
  have C3 := Lib.hid (fun W (hW : Below w7.heap.size w7 W) => eqex_any (.slice (a 3) T.ex.length (c 3)) (.slice (a' 3) U.ex.length (c' 3)) T.ex U.ex (by omega) W ((h.below b7).below hW).ex ((h'.below b7).below hW).ex)
  generalize eqB eEx T.ex U.ex = x3 at C3 hV
  have C4 := Lib.hid (fun W (hW : Below w7.heap.size w7 W) => eqtrs_any (.slice (a 4) T.tr.length (c 4)) (.slice (a' 4) U.tr.length (c' 4)) T.tr U.tr (by omega) hts W ((h.below b7).below hW).tr ((h'.below b7).below hW).tr)
  generalize eqB eTr T.tr U.tr = x4 at C4 hV
  have C5 := Lib.hid (fun W (hW : Below w7.heap.size w7 W) => eqfr_any (.slice (a 5) T.fr.length (c 5)) (.slice (a' 5) U.fr.length (c' 5)) T.fr U.fr (by omega) W ((h.below b7).below hW).fr ((h'.below b7).below hW).fr)
  generalize eqB eFr T.fr U.fr = x5 at C5 hV
  have C6 := Lib.hid (fun W (hW : Below w7.heap.size w7 W) => eqth_any (.slice (a 6) T.th.length (c 6)) (.slice (a' 6) U.th.length (c' 6)) T.th U.th (by omega) W ((h.below b7).below hW).th ((h'.below b7).below hW).th)
  generalize eqB eTh T.th U.th = x6 at C6 hV
  have C7 := Lib.hid (fun W (hW : Below w7.heap.size w7 W) => eqgu_any (.slice (a 7) T.gu.length (c 7)) (.slice (a' 7) U.gu.length (c' 7)) T.gu U.gu (by omega) W ((h.below b7).below hW).gu ((h'.below b7).below hW).gu)
  generalize eqB eGu T.gu U.gu = x7 at C7 hV
  have C8 := Lib.hid (fun W (hW : Below w7.heap.size w7 W) => eqpa_any (.slice (a 8) T.pa.length (c 8)) (.slice (a' 8) U.pa.length (c' 8)) T.pa U.pa (by omega) W ((h.below b7).below hW).pa ((h'.below b7).below hW).pa)
  generalize eqB ePa T.pa U.pa = x8 at C8 hV
  have C9 := Lib.hid (fun W (hW : Below w7.heap.size w7 W) => eqfa_any (a 9) (a' 9) (c 9) (c' 9) T.pr U.pr T.di T.wi T.cp U.di U.wi U.cp (by omega) W ((h.below b7).below hW).pr ((h'.below b7).below hW).pr)
  generalize (eqB ePr T.pr U.pr && decide (T.di = U.di ∧ T.wi = U.wi ∧ T.cp = U.cp)) = x9 at C9 hV
  have HV := Lib.hid hV
  clear hV b7 ra rb z7 h h' hf f0 f1 f2 f3 f4 f5 f6 f7 f8 f9 hts hts0
  cases x0
  · have R : Hid (V = false) := Lib.hid (by rw [← HV.out]; simp)
    have p0 : w7.cell? ⟨w.heap.size, 0, none⟩ = some (.slice (a 0) T.st.length (c 0)) := cell_of_row w7 _ 0 _ _ _ (RA.out)
    have q0 : w7.cell? ⟨w.heap.size + 1, 0, none⟩ = some (.slice (a' 0) U.st.length (c' 0)) := cell_of_row w7 _ 0 _ _ _ (RB.out)
    go_enter Tryz.func12, Tryz.ntmps12
    go_wp2_with fail
    refine (C0.out w7 (Below.refl _ _)).mono ?_
    rintro e w8 ⟨rfl, nn, hh⟩
    have b := drew_below ⟨nn, hh⟩
    clear hh
    have D0 := Lib.hid (b)
    clear b C0 p0 q0
    go_wp2_with fail
    go_ret
    exact ⟨ret_bool R.out.symm, B7.out.trans (D0.out.mono B7.out.size)⟩
  cases x1
  · have R : Hid (V = false) := Lib.hid (by rw [← HV.out]; simp)
    have p0 : w7.cell? ⟨w.heap.size, 0, none⟩ = some (.slice (a 0) T.st.length (c 0)) := cell_of_row w7 _ 0 _ _ _ (RA.out)
    have q0 : w7.cell? ⟨w.heap.size + 1, 0, none⟩ = some (.slice (a' 0) U.st.length (c' 0)) := cell_of_row w7 _ 0 _ _ _ (RB.out)
    go_enter Tryz.func12, Tryz.ntmps12
    go_wp2_with fail
    refine (C0.out w7 (Below.refl _ _)).mono ?_
    rintro e w8 ⟨rfl, nn, hh⟩
    have b := drew_below ⟨nn, hh⟩
    clear hh
    have D0 := Lib.hid (b)
    clear b C0 p0 q0
    have p1 : w8.cell? ⟨w.heap.size, 1, none⟩ = some (.slice (a 1) T.ro.length (c 1)) := cell_of_row w8 _ 1 _ _ _ ((D0.out.block _ LA.out).trans RA.out)
    have q1 : w8.cell? ⟨w.heap.size + 1, 1, none⟩ = some (.slice (a' 1) U.ro.length (c' 1)) := cell_of_row w8 _ 1 _ _ _ ((D0.out.block _ LB.out).trans RB.out)
    go_wp2_with fail
    refine (C1.out w8 D0.out).mono ?_
    rintro e w9 ⟨rfl, nn, hh⟩
    have b := drew_below ⟨nn, hh⟩
    clear hh
    have D1 := Lib.hid (D0.out.trans (b.mono D0.out.size))
    clear b C1 p1 q1
    go_wp2_with fail
    go_ret
    exact ⟨ret_bool R.out.symm, B7.out.trans (D1.out.mono B7.out.size)⟩
  cases x2
  · have R : Hid (V = false) := Lib.hid (by rw [← HV.out]; simp)
    have p0 : w7.cell? ⟨w.heap.size, 0, none⟩ = some (.slice (a 0) T.st.length (c 0)) := cell_of_row w7 _ 0 _ _ _ (RA.out)
    have q0 : w7.cell? ⟨w.heap.size + 1, 0, none⟩ = some (.slice (a' 0) U.st.length (c' 0)) := cell_of_row w7 _ 0 _ _ _ (RB.out)
    go_enter Tryz.func12, Tryz.ntmps12
    go_wp2_with fail
    refine (C0.out w7 (Below.refl _ _)).mono ?_
    rintro e w8 ⟨rfl, nn, hh⟩
    have b := drew_below ⟨nn, hh⟩
    clear hh
    have D0 := Lib.hid (b)
    clear b C0 p0 q0
    have p1 : w8.cell? ⟨w.heap.size, 1, none⟩ = some (.slice (a 1) T.ro.length (c 1)) := cell_of_row w8 _ 1 _ _ _ ((D0.out.block _ LA.out).trans RA.out)
    have q1 : w8.cell? ⟨w.heap.size + 1, 1, none⟩ = some (.slice (a' 1) U.ro.length (c' 1)) := cell_of_row w8 _ 1 _ _ _ ((D0.out.block _ LB.out).trans RB.out)
    go_wp2_with fail
    refine (C1.out w8 D0.out).mono ?_
    rintro e w9 ⟨rfl, nn, hh⟩
    have b := drew_below ⟨nn, hh⟩
    clear hh
    have D1 := Lib.hid (D0.out.trans (b.mono D0.out.size))
    clear b C1 p1 q1
    have p2 : w9.cell? ⟨w.heap.size, 2, none⟩ = some (.slice (a 2) T.ca.length (c 2)) := cell_of_row w9 _ 2 _ _ _ ((D1.out.block _ LA.out).trans RA.out)
    have q2 : w9.cell? ⟨w.heap.size + 1, 2, none⟩ = some (.slice (a' 2) U.ca.length (c' 2)) := cell_of_row w9 _ 2 _ _ _ ((D1.out.block _ LB.out).trans RB.out)
    go_wp2_with fail
    refine (C2.out w9 D1.out).mono ?_
    rintro e w10 ⟨rfl, nn, hh⟩
    have b := drew_below ⟨nn, hh⟩
    clear hh
    have D2 := Lib.hid (D1.out.trans (b.mono D1.out.size))
    clear b C2 p2 q2
    go_wp2_with fail
    go_ret
    exact ⟨ret_bool R.out.symm, B7.out.trans (D2.out.mono B7.out.size)⟩
  cases x3
  · have R : Hid (V = false) := Lib.hid (by rw [← HV.out]; simp)
    have p0 : w7.cell? ⟨w.heap.size, 0, none⟩ = some (.slice (a 0) T.st.length (c 0)) := cell_of_row w7 _ 0 _ _ _ (RA.out)
    have q0 : w7.cell? ⟨w.heap.size + 1, 0, none⟩ = some (.slice (a' 0) U.st.length (c' 0)) := cell_of_row w7 _ 0 _ _ _ (RB.out)
    go_enter Tryz.func12, Tryz.ntmps12
    go_wp2_with fail
    refine (C0.out w7 (Below.refl _ _)).mono ?_
    rintro e w8 ⟨rfl, nn, hh⟩
    have b := drew_below ⟨nn, hh⟩
    clear hh
    have D0 := Lib.hid (b)
    clear b C0 p0 q0
    have p1 : w8.cell? ⟨w.heap.size, 1, none⟩ = some (.slice (a 1) T.ro.length (c 1)) := cell_of_row w8 _ 1 _ _ _ ((D0.out.block _ LA.out).trans RA.out)
    have q1 : w8.cell? ⟨w.heap.size + 1, 1, none⟩ = some (.slice (a' 1) U.ro.length (c' 1)) := cell_of_row w8 _ 1 _ _ _ ((D0.out.block _ LB.out).trans RB.out)
    go_wp2_with fail
    refine (C1.out w8 D0.out).mono ?_
    rintro e w9 ⟨rfl, nn, hh⟩
    have b := drew_below ⟨nn, hh⟩
    clear hh
    have D1 := Lib.hid (D0.out.trans (b.mono D0.out.size))
    clear b C1 p1 q1
    have p2 : w9.cell? ⟨w.heap.size, 2, none⟩ = some (.slice (a 2) T.ca.length (c 2)) := cell_of_row w9 _ 2 _ _ _ ((D1.out.block _ LA.out).trans RA.out)
    have q2 : w9.cell? ⟨w.heap.size + 1, 2, none⟩ = some (.slice (a' 2) U.ca.length (c' 2)) := cell_of_row w9 _ 2 _ _ _ ((D1.out.block _ LB.out).trans RB.out)
    go_wp2_with fail
    refine (C2.out w9 D1.out).mono ?_
    rintro e w10 ⟨rfl, nn, hh⟩
    have b := drew_below ⟨nn, hh⟩
    clear hh
    have D2 := Lib.hid (D1.out.trans (b.mono D1.out.size))
    clear b C2 p2 q2
    have p3 : w10.cell? ⟨w.heap.size, 3, none⟩ = some (.slice (a 3) T.ex.length (c 3)) := cell_of_row w10 _ 3 _ _ _ ((D2.out.block _ LA.out).trans RA.out)
    have q3 : w10.cell? ⟨w.heap.size + 1, 3, none⟩ = some (.slice (a' 3) U.ex.length (c' 3)) := cell_of_row w10 _ 3 _ _ _ ((D2.out.block _ LB.out).trans RB.out)
    go_wp2_with fail
    refine (C3.out w10 D2.out).mono ?_
    rintro e w11 ⟨rfl, nn, hh⟩
    have b := drew_below ⟨nn, hh⟩
    clear hh
    have D3 := Lib.hid (D2.out.trans (b.mono D2.out.size))
    clear b C3 p3 q3
    go_wp2_with fail
    go_ret
    exact ⟨ret_bool R.out.symm, B7.out.trans (D3.out.mono B7.out.size)⟩
  cases x4
  · have R : Hid (V = false) := Lib.hid (by rw [← HV.out]; simp)
    have p0 : w7.cell? ⟨w.heap.size, 0, none⟩ = some (.slice (a 0) T.st.length (c 0)) := cell_of_row w7 _ 0 _ _ _ (RA.out)
    have q0 : w7.cell? ⟨w.heap.size + 1, 0, none⟩ = some (.slice (a' 0) U.st.length (c' 0)) := cell_of_row w7 _ 0 _ _ _ (RB.out)
    go_enter Tryz.func12, Tryz.ntmps12
    go_wp2_with fail
    refine (C0.out w7 (Below.refl _ _)).mono ?_
    rintro e w8 ⟨rfl, nn, hh⟩
    have b := drew_below ⟨nn, hh⟩
    clear hh
    have D0 := Lib.hid (b)
    clear b C0 p0 q0
    have p1 : w8.cell? ⟨w.heap.size, 1, none⟩ = some (.slice (a 1) T.ro.length (c 1)) := cell_of_row w8 _ 1 _ _ _ ((D0.out.block _ LA.out).trans RA.out)
    have q1 : w8.cell? ⟨w.heap.size + 1, 1, none⟩ = some (.slice (a' 1) U.ro.length (c' 1)) := cell_of_row w8 _ 1 _ _ _ ((D0.out.block _ LB.out).trans RB.out)
    go_wp2_with fail
    refine (C1.out w8 D0.out).mono ?_
    rintro e w9 ⟨rfl, nn, hh⟩
    have b := drew_below ⟨nn, hh⟩
    clear hh
    have D1 := Lib.hid (D0.out.trans (b.mono D0.out.size))
    clear b C1 p1 q1
    have p2 : w9.cell? ⟨w.heap.size, 2, none⟩ = some (.slice (a 2) T.ca.length (c 2)) := cell_of_row w9 _ 2 _ _ _ ((D1.out.block _ LA.out).trans RA.out)
    have q2 : w9.cell? ⟨w.heap.size + 1, 2, none⟩ = some (.slice (a' 2) U.ca.length (c' 2)) := cell_of_row w9 _ 2 _ _ _ ((D1.out.block _ LB.out).trans RB.out)
    go_wp2_with fail
    refine (C2.out w9 D1.out).mono ?_
    rintro e w10 ⟨rfl, nn, hh⟩
    have b := drew_below ⟨nn, hh⟩
    clear hh
    have D2 := Lib.hid (D1.out.trans (b.mono D1.out.size))
    clear b C2 p2 q2
    have p3 : w10.cell? ⟨w.heap.size, 3, none⟩ = some (.slice (a 3) T.ex.length (c 3)) := cell_of_row w10 _ 3 _ _ _ ((D2.out.block _ LA.out).trans RA.out)
    have q3 : w10.cell? ⟨w.heap.size + 1, 3, none⟩ = some (.slice (a' 3) U.ex.length (c' 3)) := cell_of_row w10 _ 3 _ _ _ ((D2.out.block _ LB.out).trans RB.out)
    go_wp2_with fail
    refine (C3.out w10 D2.out).mono ?_
    rintro e w11 ⟨rfl, nn, hh⟩
    have b := drew_below ⟨nn, hh⟩
    clear hh
    have D3 := Lib.hid (D2.out.trans (b.mono D2.out.size))
    clear b C3 p3 q3
    have p4 : w11.cell? ⟨w.heap.size, 4, none⟩ = some (.slice (a 4) T.tr.length (c 4)) := cell_of_row w11 _ 4 _ _ _ ((D3.out.block _ LA.out).trans RA.out)
    have q4 : w11.cell? ⟨w.heap.size + 1, 4, none⟩ = some (.slice (a' 4) U.tr.length (c' 4)) := cell_of_row w11 _ 4 _ _ _ ((D3.out.block _ LB.out).trans RB.out)
    go_wp2_with fail
    refine (C4.out w11 D3.out).mono ?_
    rintro e w12 ⟨rfl, b⟩
    have D4 := Lib.hid (D3.out.trans (b.mono D3.out.size))
    clear b C4 p4 q4
    go_wp2_with fail
    go_ret
    exact ⟨ret_bool R.out.symm, B7.out.trans (D4.out.mono B7.out.size)⟩
  cases x5
  · have R : Hid (V = false) := Lib.hid (by rw [← HV.out]; simp)
    have p0 : w7.cell? ⟨w.heap.size, 0, none⟩ = some (.slice (a 0) T.st.length (c 0)) := cell_of_row w7 _ 0 _ _ _ (RA.out)
    have q0 : w7.cell? ⟨w.heap.size + 1, 0, none⟩ = some (.slice (a' 0) U.st.length (c' 0)) := cell_of_row w7 _ 0 _ _ _ (RB.out)
    go_enter Tryz.func12, Tryz.ntmps12
    go_wp2_with fail
    refine (C0.out w7 (Below.refl _ _)).mono ?_
    rintro e w8 ⟨rfl, nn, hh⟩
    have b := drew_below ⟨nn, hh⟩
    clear hh
    have D0 := Lib.hid (b)
    clear b C0 p0 q0
    have p1 : w8.cell? ⟨w.heap.size, 1, none⟩ = some (.slice (a 1) T.ro.length (c 1)) := cell_of_row w8 _ 1 _ _ _ ((D0.out.block _ LA.out).trans RA.out)
    have q1 : w8.cell? ⟨w.heap.size + 1, 1, none⟩ = some (.slice (a' 1) U.ro.length (c' 1)) := cell_of_row w8 _ 1 _ _ _ ((D0.out.block _ LB.out).trans RB.out)
    go_wp2_with fail
    refine (C1.out w8 D0.out).mono ?_
    rintro e w9 ⟨rfl, nn, hh⟩
    have b := drew_below ⟨nn, hh⟩
    clear hh
    have D1 := Lib.hid (D0.out.trans (b.mono D0.out.size))
    clear b C1 p1 q1
    have p2 : w9.cell? ⟨w.heap.size, 2, none⟩ = some (.slice (a 2) T.ca.length (c 2)) := cell_of_row w9 _ 2 _ _ _ ((D1.out.block _ LA.out).trans RA.out)
    have q2 : w9.cell? ⟨w.heap.size + 1, 2, none⟩ = some (.slice (a' 2) U.ca.length (c' 2)) := cell_of_row w9 _ 2 _ _ _ ((D1.out.block _ LB.out).trans RB.out)
    go_wp2_with fail
    refine (C2.out w9 D1.out).mono ?_
    rintro e w10 ⟨rfl, nn, hh⟩
    have b := drew_below ⟨nn, hh⟩
    clear hh
    have D2 := Lib.hid (D1.out.trans (b.mono D1.out.size))
    clear b C2 p2 q2
    have p3 : w10.cell? ⟨w.heap.size, 3, none⟩ = some (.slice (a 3) T.ex.length (c 3)) := cell_of_row w10 _ 3 _ _ _ ((D2.out.block _ LA.out).trans RA.out)
    have q3 : w10.cell? ⟨w.heap.size + 1, 3, none⟩ = some (.slice (a' 3) U.ex.length (c' 3)) := cell_of_row w10 _ 3 _ _ _ ((D2.out.block _ LB.out).trans RB.out)
    go_wp2_with fail
    refine (C3.out w10 D2.out).mono ?_
    rintro e w11 ⟨rfl, nn, hh⟩
    have b := drew_below ⟨nn, hh⟩
    clear hh
    have D3 := Lib.hid (D2.out.trans (b.mono D2.out.size))
    clear b C3 p3 q3
    have p4 : w11.cell? ⟨w.heap.size, 4, none⟩ = some (.slice (a 4) T.tr.length (c 4)) := cell_of_row w11 _ 4 _ _ _ ((D3.out.block _ LA.out).trans RA.out)
    have q4 : w11.cell? ⟨w.heap.size + 1, 4, none⟩ = some (.slice (a' 4) U.tr.length (c' 4)) := cell_of_row w11 _ 4 _ _ _ ((D3.out.block _ LB.out).trans RB.out)
    go_wp2_with fail
    refine (C4.out w11 D3.out).mono ?_
    rintro e w12 ⟨rfl, b⟩
    have D4 := Lib.hid (D3.out.trans (b.mono D3.out.size))
    clear b C4 p4 q4
    have p5 : w12.cell? ⟨w.heap.size, 5, none⟩ = some (.slice (a 5) T.fr.length (c 5)) := cell_of_row w12 _ 5 _ _ _ ((D4.out.block _ LA.out).trans RA.out)
    have q5 : w12.cell? ⟨w.heap.size + 1, 5, none⟩ = some (.slice (a' 5) U.fr.length (c' 5)) := cell_of_row w12 _ 5 _ _ _ ((D4.out.block _ LB.out).trans RB.out)
    go_wp2_with fail
    refine (C5.out w12 D4.out).mono ?_
    rintro e w13 ⟨rfl, nn, hh⟩
    have b := drew_below ⟨nn, hh⟩
    clear hh
    have D5 := Lib.hid (D4.out.trans (b.mono D4.out.size))
    clear b C5 p5 q5
    go_wp2_with fail
    go_ret
    exact ⟨ret_bool R.out.symm, B7.out.trans (D5.out.mono B7.out.size)⟩
  cases x6
  · have R : Hid (V = false) := Lib.hid (by rw [← HV.out]; simp)
    have p0 : w7.cell? ⟨w.heap.size, 0, none⟩ = some (.slice (a 0) T.st.length (c 0)) := cell_of_row w7 _ 0 _ _ _ (RA.out)
    have q0 : w7.cell? ⟨w.heap.size + 1, 0, none⟩ = some (.slice (a' 0) U.st.length (c' 0)) := cell_of_row w7 _ 0 _ _ _ (RB.out)
    go_enter Tryz.func12, Tryz.ntmps12
    go_wp2_with fail
    refine (C0.out w7 (Below.refl _ _)).mono ?_
    rintro e w8 ⟨rfl, nn, hh⟩
    have b := drew_below ⟨nn, hh⟩
    clear hh
    have D0 := Lib.hid (b)
    clear b C0 p0 q0
    have p1 : w8.cell? ⟨w.heap.size, 1, none⟩ = some (.slice (a 1) T.ro.length (c 1)) := cell_of_row w8 _ 1 _ _ _ ((D0.out.block _ LA.out).trans RA.out)
    have q1 : w8.cell? ⟨w.heap.size + 1, 1, none⟩ = some (.slice (a' 1) U.ro.length (c' 1)) := cell_of_row w8 _ 1 _ _ _ ((D0.out.block _ LB.out).trans RB.out)
    go_wp2_with fail
    refine (C1.out w8 D0.out).mono ?_
    rintro e w9 ⟨rfl, nn, hh⟩
    have b := drew_below ⟨nn, hh⟩
    clear hh
    have D1 := Lib.hid (D0.out.trans (b.mono D0.out.size))
    clear b C1 p1 q1
    have p2 : w9.cell? ⟨w.heap.size, 2, none⟩ = some (.slice (a 2) T.ca.length (c 2)) := cell_of_row w9 _ 2 _ _ _ ((D1.out.block _ LA.out).trans RA.out)
    have q2 : w9.cell? ⟨w.heap.size + 1, 2, none⟩ = some (.slice (a' 2) U.ca.length (c' 2)) := cell_of_row w9 _ 2 _ _ _ ((D1.out.block _ LB.out).trans RB.out)
    go_wp2_with fail
    refine (C2.out w9 D1.out).mono ?_
    rintro e w10 ⟨rfl, nn, hh⟩
    have b := drew_below ⟨nn, hh⟩
    clear hh
    have D2 := Lib.hid (D1.out.trans (b.mono D1.out.size))
    clear b C2 p2 q2
    have p3 : w10.cell? ⟨w.heap.size, 3, none⟩ = some (.slice (a 3) T.ex.length (c 3)) := cell_of_row w10 _ 3 _ _ _ ((D2.out.block _ LA.out).trans RA.out)
    have q3 : w10.cell? ⟨w.heap.size + 1, 3, none⟩ = some (.slice (a' 3) U.ex.length (c' 3)) := cell_of_row w10 _ 3 _ _ _ ((D2.out.block _ LB.out).trans RB.out)
    go_wp2_with fail
    refine (C3.out w10 D2.out).mono ?_
    rintro e w11 ⟨rfl, nn, hh⟩
    have b := drew_below ⟨nn, hh⟩
    clear hh
    have D3 := Lib.hid (D2.out.trans (b.mono D2.out.size))
    clear b C3 p3 q3
    have p4 : w11.cell? ⟨w.heap.size, 4, none⟩ = some (.slice (a 4) T.tr.length (c 4)) := cell_of_row w11 _ 4 _ _ _ ((D3.out.block _ LA.out).trans RA.out)
    have q4 : w11.cell? ⟨w.heap.size + 1, 4, none⟩ = some (.slice (a' 4) U.tr.length (c' 4)) := cell_of_row w11 _ 4 _ _ _ ((D3.out.block _ LB.out).trans RB.out)
    go_wp2_with fail
    refine (C4.out w11 D3.out).mono ?_
    rintro e w12 ⟨rfl, b⟩
    have D4 := Lib.hid (D3.out.trans (b.mono D3.out.size))
    clear b C4 p4 q4
    have p5 : w12.cell? ⟨w.heap.size, 5, none⟩ = some (.slice (a 5) T.fr.length (c 5)) := cell_of_row w12 _ 5 _ _ _ ((D4.out.block _ LA.out).trans RA.out)
    have q5 : w12.cell? ⟨w.heap.size + 1, 5, none⟩ = some (.slice (a' 5) U.fr.length (c' 5)) := cell_of_row w12 _ 5 _ _ _ ((D4.out.block _ LB.out).trans RB.out)
    go_wp2_with fail
    refine (C5.out w12 D4.out).mono ?_
    rintro e w13 ⟨rfl, nn, hh⟩
    have b := drew_below ⟨nn, hh⟩
    clear hh
    have D5 := Lib.hid (D4.out.trans (b.mono D4.out.size))
    clear b C5 p5 q5
    have p6 : w13.cell? ⟨w.heap.size, 6, none⟩ = some (.slice (a 6) T.th.length (c 6)) := cell_of_row w13 _ 6 _ _ _ ((D5.out.block _ LA.out).trans RA.out)
    have q6 : w13.cell? ⟨w.heap.size + 1, 6, none⟩ = some (.slice (a' 6) U.th.length (c' 6)) := cell_of_row w13 _ 6 _ _ _ ((D5.out.block _ LB.out).trans RB.out)
    go_wp2_with fail
    refine (C6.out w13 D5.out).mono ?_
    rintro e w14 ⟨rfl, nn, hh⟩
    have b := drew_below ⟨nn, hh⟩
    clear hh
    have D6 := Lib.hid (D5.out.trans (b.mono D5.out.size))
    clear b C6 p6 q6
    go_wp2_with fail
    go_ret
    exact ⟨ret_bool R.out.symm, B7.out.trans (D6.out.mono B7.out.size)⟩
  cases x7
  · have R : Hid (V = false) := Lib.hid (by rw [← HV.out]; simp)
    have p0 : w7.cell? ⟨w.heap.size, 0, none⟩ = some (.slice (a 0) T.st.length (c 0)) := cell_of_row w7 _ 0 _ _ _ (RA.out)
    have q0 : w7.cell? ⟨w.heap.size + 1, 0, none⟩ = some (.slice (a' 0) U.st.length (c' 0)) := cell_of_row w7 _ 0 _ _ _ (RB.out)
    go_enter Tryz.func12, Tryz.ntmps12
    go_wp2_with fail
    refine (C0.out w7 (Below.refl _ _)).mono ?_
    rintro e w8 ⟨rfl, nn, hh⟩
    have b := drew_below ⟨nn, hh⟩
    clear hh
    have D0 := Lib.hid (b)
    clear b C0 p0 q0
    have p1 : w8.cell? ⟨w.heap.size, 1, none⟩ = some (.slice (a 1) T.ro.length (c 1)) := cell_of_row w8 _ 1 _ _ _ ((D0.out.block _ LA.out).trans RA.out)
    have q1 : w8.cell? ⟨w.heap.size + 1, 1, none⟩ = some (.slice (a' 1) U.ro.length (c' 1)) := cell_of_row w8 _ 1 _ _ _ ((D0.out.block _ LB.out).trans RB.out)
    go_wp2_with fail
    refine (C1.out w8 D0.out).mono ?_
    rintro e w9 ⟨rfl, nn, hh⟩
    have b := drew_below ⟨nn, hh⟩
    clear hh
    have D1 := Lib.hid (D0.out.trans (b.mono D0.out.size))
    clear b C1 p1 q1
    have p2 : w9.cell? ⟨w.heap.size, 2, none⟩ = some (.slice (a 2) T.ca.length (c 2)) := cell_of_row w9 _ 2 _ _ _ ((D1.out.block _ LA.out).trans RA.out)
    have q2 : w9.cell? ⟨w.heap.size + 1, 2, none⟩ = some (.slice (a' 2) U.ca.length (c' 2)) := cell_of_row w9 _ 2 _ _ _ ((D1.out.block _ LB.out).trans RB.out)
    go_wp2_with fail
    refine (C2.out w9 D1.out).mono ?_
    rintro e w10 ⟨rfl, nn, hh⟩
    have b := drew_below ⟨nn, hh⟩
    clear hh
    have D2 := Lib.hid (D1.out.trans (b.mono D1.out.size))
    clear b C2 p2 q2
    have p3 : w10.cell? ⟨w.heap.size, 3, none⟩ = some (.slice (a 3) T.ex.length (c 3)) := cell_of_row w10 _ 3 _ _ _ ((D2.out.block _ LA.out).trans RA.out)
    have q3 : w10.cell? ⟨w.heap.size + 1, 3, none⟩ = some (.slice (a' 3) U.ex.length (c' 3)) := cell_of_row w10 _ 3 _ _ _ ((D2.out.block _ LB.out).trans RB.out)
    go_wp2_with fail
    refine (C3.out w10 D2.out).mono ?_
    rintro e w11 ⟨rfl, nn, hh⟩
    have b := drew_below ⟨nn, hh⟩
    clear hh
    have D3 := Lib.hid (D2.out.trans (b.mono D2.out.size))
    clear b C3 p3 q3
    have p4 : w11.cell? ⟨w.heap.size, 4, none⟩ = some (.slice (a 4) T.tr.length (c 4)) := cell_of_row w11 _ 4 _ _ _ ((D3.out.block _ LA.out).trans RA.out)
    have q4 : w11.cell? ⟨w.heap.size + 1, 4, none⟩ = some (.slice (a' 4) U.tr.length (c' 4)) := cell_of_row w11 _ 4 _ _ _ ((D3.out.block _ LB.out).trans RB.out)
    go_wp2_with fail
    refine (C4.out w11 D3.out).mono ?_
    rintro e w12 ⟨rfl, b⟩
    have D4 := Lib.hid (D3.out.trans (b.mono D3.out.size))
    clear b C4 p4 q4
    have p5 : w12.cell? ⟨w.heap.size, 5, none⟩ = some (.slice (a 5) T.fr.length (c 5)) := cell_of_row w12 _ 5 _ _ _ ((D4.out.block _ LA.out).trans RA.out)
    have q5 : w12.cell? ⟨w.heap.size + 1, 5, none⟩ = some (.slice (a' 5) U.fr.length (c' 5)) := cell_of_row w12 _ 5 _ _ _ ((D4.out.block _ LB.out).trans RB.out)
    go_wp2_with fail
    refine (C5.out w12 D4.out).mono ?_
    rintro e w13 ⟨rfl, nn, hh⟩
    have b := drew_below ⟨nn, hh⟩
    clear hh
    have D5 := Lib.hid (D4.out.trans (b.mono D4.out.size))
    clear b C5 p5 q5
    have p6 : w13.cell? ⟨w.heap.size, 6, none⟩ = some (.slice (a 6) T.th.length (c 6)) := cell_of_row w13 _ 6 _ _ _ ((D5.out.block _ LA.out).trans RA.out)
    have q6 : w13.cell? ⟨w.heap.size + 1, 6, none⟩ = some (.slice (a' 6) U.th.length (c' 6)) := cell_of_row w13 _ 6 _ _ _ ((D5.out.block _ LB.out).trans RB.out)
    go_wp2_with fail
    refine (C6.out w13 D5.out).mono ?_
    rintro e w14 ⟨rfl, nn, hh⟩
    have b := drew_below ⟨nn, hh⟩
    clear hh
    have D6 := Lib.hid (D5.out.trans (b.mono D5.out.size))
    clear b C6 p6 q6
    have p7 : w14.cell? ⟨w.heap.size, 7, none⟩ = some (.slice (a 7) T.gu.length (c 7)) := cell_of_row w14 _ 7 _ _ _ ((D6.out.block _ LA.out).trans RA.out)
    have q7 : w14.cell? ⟨w.heap.size + 1, 7, none⟩ = some (.slice (a' 7) U.gu.length (c' 7)) := cell_of_row w14 _ 7 _ _ _ ((D6.out.block _ LB.out).trans RB.out)
    go_wp2_with fail
    refine (C7.out w14 D6.out).mono ?_
    rintro e w15 ⟨rfl, nn, hh⟩
    have b := drew_below ⟨nn, hh⟩
    clear hh
    have D7 := Lib.hid (D6.out.trans (b.mono D6.out.size))
    clear b C7 p7 q7
    go_wp2_with fail
    go_ret
    exact ⟨ret_bool R.out.symm, B7.out.trans (D7.out.mono B7.out.size)⟩
  cases x8
  · have R : Hid (V = false) := Lib.hid (by rw [← HV.out]; simp)
    have p0 : w7.cell? ⟨w.heap.size, 0, none⟩ = some (.slice (a 0) T.st.length (c 0)) := cell_of_row w7 _ 0 _ _ _ (RA.out)
    have q0 : w7.cell? ⟨w.heap.size + 1, 0, none⟩ = some (.slice (a' 0) U.st.length (c' 0)) := cell_of_row w7 _ 0 _ _ _ (RB.out)
    go_enter Tryz.func12, Tryz.ntmps12
    go_wp2_with fail
    refine (C0.out w7 (Below.refl _ _)).mono ?_
    rintro e w8 ⟨rfl, nn, hh⟩
    have b := drew_below ⟨nn, hh⟩
    clear hh
    have D0 := Lib.hid (b)
    clear b C0 p0 q0
    have p1 : w8.cell? ⟨w.heap.size, 1, none⟩ = some (.slice (a 1) T.ro.length (c 1)) := cell_of_row w8 _ 1 _ _ _ ((D0.out.block _ LA.out).trans RA.out)
    have q1 : w8.cell? ⟨w.heap.size + 1, 1, none⟩ = some (.slice (a' 1) U.ro.length (c' 1)) := cell_of_row w8 _ 1 _ _ _ ((D0.out.block _ LB.out).trans RB.out)
    go_wp2_with fail
    refine (C1.out w8 D0.out).mono ?_
    rintro e w9 ⟨rfl, nn, hh⟩
    have b := drew_below ⟨nn, hh⟩
    clear hh
    have D1 := Lib.hid (D0.out.trans (b.mono D0.out.size))
    clear b C1 p1 q1
    have p2 : w9.cell? ⟨w.heap.size, 2, none⟩ = some (.slice (a 2) T.ca.length (c 2)) := cell_of_row w9 _ 2 _ _ _ ((D1.out.block _ LA.out).trans RA.out)
    have q2 : w9.cell? ⟨w.heap.size + 1, 2, none⟩ = some (.slice (a' 2) U.ca.length (c' 2)) := cell_of_row w9 _ 2 _ _ _ ((D1.out.block _ LB.out).trans RB.out)
    go_wp2_with fail
    refine (C2.out w9 D1.out).mono ?_
    rintro e w10 ⟨rfl, nn, hh⟩
    have b := drew_below ⟨nn, hh⟩
    clear hh
    have D2 := Lib.hid (D1.out.trans (b.mono D1.out.size))
    clear b C2 p2 q2
    have p3 : w10.cell? ⟨w.heap.size, 3, none⟩ = some (.slice (a 3) T.ex.length (c 3)) := cell_of_row w10 _ 3 _ _ _ ((D2.out.block _ LA.out).trans RA.out)
    have q3 : w10.cell? ⟨w.heap.size + 1, 3, none⟩ = some (.slice (a' 3) U.ex.length (c' 3)) := cell_of_row w10 _ 3 _ _ _ ((D2.out.block _ LB.out).trans RB.out)
    go_wp2_with fail
    refine (C3.out w10 D2.out).mono ?_
    rintro e w11 ⟨rfl, nn, hh⟩
    have b := drew_below ⟨nn, hh⟩
    clear hh
    have D3 := Lib.hid (D2.out.trans (b.mono D2.out.size))
    clear b C3 p3 q3
    have p4 : w11.cell? ⟨w.heap.size, 4, none⟩ = some (.slice (a 4) T.tr.length (c 4)) := cell_of_row w11 _ 4 _ _ _ ((D3.out.block _ LA.out).trans RA.out)
    have q4 : w11.cell? ⟨w.heap.size + 1, 4, none⟩ = some (.slice (a' 4) U.tr.length (c' 4)) := cell_of_row w11 _ 4 _ _ _ ((D3.out.block _ LB.out).trans RB.out)
    go_wp2_with fail
    refine (C4.out w11 D3.out).mono ?_
    rintro e w12 ⟨rfl, b⟩
    have D4 := Lib.hid (D3.out.trans (b.mono D3.out.size))
    clear b C4 p4 q4
    have p5 : w12.cell? ⟨w.heap.size, 5, none⟩ = some (.slice (a 5) T.fr.length (c 5)) := cell_of_row w12 _ 5 _ _ _ ((D4.out.block _ LA.out).trans RA.out)
    have q5 : w12.cell? ⟨w.heap.size + 1, 5, none⟩ = some (.slice (a' 5) U.fr.length (c' 5)) := cell_of_row w12 _ 5 _ _ _ ((D4.out.block _ LB.out).trans RB.out)
    go_wp2_with fail
    refine (C5.out w12 D4.out).mono ?_
    rintro e w13 ⟨rfl, nn, hh⟩
    have b := drew_below ⟨nn, hh⟩
    clear hh
    have D5 := Lib.hid (D4.out.trans (b.mono D4.out.size))
    clear b C5 p5 q5
    have p6 : w13.cell? ⟨w.heap.size, 6, none⟩ = some (.slice (a 6) T.th.length (c 6)) := cell_of_row w13 _ 6 _ _ _ ((D5.out.block _ LA.out).trans RA.out)
    have q6 : w13.cell? ⟨w.heap.size + 1, 6, none⟩ = some (.slice (a' 6) U.th.length (c' 6)) := cell_of_row w13 _ 6 _ _ _ ((D5.out.block _ LB.out).trans RB.out)
    go_wp2_with fail
    refine (C6.out w13 D5.out).mono ?_
    rintro e w14 ⟨rfl, nn, hh⟩
    have b := drew_below ⟨nn, hh⟩
    clear hh
    have D6 := Lib.hid (D5.out.trans (b.mono D5.out.size))
    clear b C6 p6 q6
    have p7 : w14.cell? ⟨w.heap.size, 7, none⟩ = some (.slice (a 7) T.gu.length (c 7)) := cell_of_row w14 _ 7 _ _ _ ((D6.out.block _ LA.out).trans RA.out)
    have q7 : w14.cell? ⟨w.heap.size + 1, 7, none⟩ = some (.slice (a' 7) U.gu.length (c' 7)) := cell_of_row w14 _ 7 _ _ _ ((D6.out.block _ LB.out).trans RB.out)
    go_wp2_with fail
    refine (C7.out w14 D6.out).mono ?_
    rintro e w15 ⟨rfl, nn, hh⟩
    have b := drew_below ⟨nn, hh⟩
    clear hh
    have D7 := Lib.hid (D6.out.trans (b.mono D6.out.size))
    clear b C7 p7 q7
    have p8 : w15.cell? ⟨w.heap.size, 8, none⟩ = some (.slice (a 8) T.pa.length (c 8)) := cell_of_row w15 _ 8 _ _ _ ((D7.out.block _ LA.out).trans RA.out)
    have q8 : w15.cell? ⟨w.heap.size + 1, 8, none⟩ = some (.slice (a' 8) U.pa.length (c' 8)) := cell_of_row w15 _ 8 _ _ _ ((D7.out.block _ LB.out).trans RB.out)
    go_wp2_with fail
    refine (C8.out w15 D7.out).mono ?_
    rintro e w16 ⟨rfl, nn, hh⟩
    have b := drew_below ⟨nn, hh⟩
    clear hh
    have D8 := Lib.hid (D7.out.trans (b.mono D7.out.size))
    clear b C8 p8 q8
    go_wp2_with fail
    go_ret
    exact ⟨ret_bool R.out.symm, B7.out.trans (D8.out.mono B7.out.size)⟩
  cases x9
  · have R : Hid (V = false) := Lib.hid (by rw [← HV.out]; simp)
    have p0 : w7.cell? ⟨w.heap.size, 0, none⟩ = some (.slice (a 0) T.st.length (c 0)) := cell_of_row w7 _ 0 _ _ _ (RA.out)
    have q0 : w7.cell? ⟨w.heap.size + 1, 0, none⟩ = some (.slice (a' 0) U.st.length (c' 0)) := cell_of_row w7 _ 0 _ _ _ (RB.out)
    go_enter Tryz.func12, Tryz.ntmps12
    go_wp2_with fail
    refine (C0.out w7 (Below.refl _ _)).mono ?_
    rintro e w8 ⟨rfl, nn, hh⟩
    have b := drew_below ⟨nn, hh⟩
    clear hh
    have D0 := Lib.hid (b)
    clear b C0 p0 q0
    have p1 : w8.cell? ⟨w.heap.size, 1, none⟩ = some (.slice (a 1) T.ro.length (c 1)) := cell_of_row w8 _ 1 _ _ _ ((D0.out.block _ LA.out).trans RA.out)
    have q1 : w8.cell? ⟨w.heap.size + 1, 1, none⟩ = some (.slice (a' 1) U.ro.length (c' 1)) := cell_of_row w8 _ 1 _ _ _ ((D0.out.block _ LB.out).trans RB.out)
    go_wp2_with fail
    refine (C1.out w8 D0.out).mono ?_
    rintro e w9 ⟨rfl, nn, hh⟩
    have b := drew_below ⟨nn, hh⟩
    clear hh
    have D1 := Lib.hid (D0.out.trans (b.mono D0.out.size))
    clear b C1 p1 q1
    have p2 : w9.cell? ⟨w.heap.size, 2, none⟩ = some (.slice (a 2) T.ca.length (c 2)) := cell_of_row w9 _ 2 _ _ _ ((D1.out.block _ LA.out).trans RA.out)
    have q2 : w9.cell? ⟨w.heap.size + 1, 2, none⟩ = some (.slice (a' 2) U.ca.length (c' 2)) := cell_of_row w9 _ 2 _ _ _ ((D1.out.block _ LB.out).trans RB.out)
    go_wp2_with fail
    refine (C2.out w9 D1.out).mono ?_
    rintro e w10 ⟨rfl, nn, hh⟩
    have b := drew_below ⟨nn, hh⟩
    clear hh
    have D2 := Lib.hid (D1.out.trans (b.mono D1.out.size))
    clear b C2 p2 q2
    have p3 : w10.cell? ⟨w.heap.size, 3, none⟩ = some (.slice (a 3) T.ex.length (c 3)) := cell_of_row w10 _ 3 _ _ _ ((D2.out.block _ LA.out).trans RA.out)
    have q3 : w10.cell? ⟨w.heap.size + 1, 3, none⟩ = some (.slice (a' 3) U.ex.length (c' 3)) := cell_of_row w10 _ 3 _ _ _ ((D2.out.block _ LB.out).trans RB.out)
    go_wp2_with fail
    refine (C3.out w10 D2.out).mono ?_
    rintro e w11 ⟨rfl, nn, hh⟩
    have b := drew_below ⟨nn, hh⟩
    clear hh
    have D3 := Lib.hid (D2.out.trans (b.mono D2.out.size))
    clear b C3 p3 q3
    have p4 : w11.cell? ⟨w.heap.size, 4, none⟩ = some (.slice (a 4) T.tr.length (c 4)) := cell_of_row w11 _ 4 _ _ _ ((D3.out.block _ LA.out).trans RA.out)
    have q4 : w11.cell? ⟨w.heap.size + 1, 4, none⟩ = some (.slice (a' 4) U.tr.length (c' 4)) := cell_of_row w11 _ 4 _ _ _ ((D3.out.block _ LB.out).trans RB.out)
    go_wp2_with fail
    refine (C4.out w11 D3.out).mono ?_
    rintro e w12 ⟨rfl, b⟩
    have D4 := Lib.hid (D3.out.trans (b.mono D3.out.size))
    clear b C4 p4 q4
    have p5 : w12.cell? ⟨w.heap.size, 5, none⟩ = some (.slice (a 5) T.fr.length (c 5)) := cell_of_row w12 _ 5 _ _ _ ((D4.out.block _ LA.out).trans RA.out)
    have q5 : w12.cell? ⟨w.heap.size + 1, 5, none⟩ = some (.slice (a' 5) U.fr.length (c' 5)) := cell_of_row w12 _ 5 _ _ _ ((D4.out.block _ LB.out).trans RB.out)
    go_wp2_with fail
    refine (C5.out w12 D4.out).mono ?_
    rintro e w13 ⟨rfl, nn, hh⟩
    have b := drew_below ⟨nn, hh⟩
    clear hh
    have D5 := Lib.hid (D4.out.trans (b.mono D4.out.size))
    clear b C5 p5 q5
    have p6 : w13.cell? ⟨w.heap.size, 6, none⟩ = some (.slice (a 6) T.th.length (c 6)) := cell_of_row w13 _ 6 _ _ _ ((D5.out.block _ LA.out).trans RA.out)
    have q6 : w13.cell? ⟨w.heap.size + 1, 6, none⟩ = some (.slice (a' 6) U.th.length (c' 6)) := cell_of_row w13 _ 6 _ _ _ ((D5.out.block _ LB.out).trans RB.out)
    go_wp2_with fail
    refine (C6.out w13 D5.out).mono ?_
    rintro e w14 ⟨rfl, nn, hh⟩
    have b := drew_below ⟨nn, hh⟩
    clear hh
    have D6 := Lib.hid (D5.out.trans (b.mono D5.out.size))
    clear b C6 p6 q6
    have p7 : w14.cell? ⟨w.heap.size, 7, none⟩ = some (.slice (a 7) T.gu.length (c 7)) := cell_of_row w14 _ 7 _ _ _ ((D6.out.block _ LA.out).trans RA.out)
    have q7 : w14.cell? ⟨w.heap.size + 1, 7, none⟩ = some (.slice (a' 7) U.gu.length (c' 7)) := cell_of_row w14 _ 7 _ _ _ ((D6.out.block _ LB.out).trans RB.out)
    go_wp2_with fail
    refine (C7.out w14 D6.out).mono ?_
    rintro e w15 ⟨rfl, nn, hh⟩
    have b := drew_below ⟨nn, hh⟩
    clear hh
    have D7 := Lib.hid (D6.out.trans (b.mono D6.out.size))
    clear b C7 p7 q7
    have p8 : w15.cell? ⟨w.heap.size, 8, none⟩ = some (.slice (a 8) T.pa.length (c 8)) := cell_of_row w15 _ 8 _ _ _ ((D7.out.block _ LA.out).trans RA.out)
    have q8 : w15.cell? ⟨w.heap.size + 1, 8, none⟩ = some (.slice (a' 8) U.pa.length (c' 8)) := cell_of_row w15 _ 8 _ _ _ ((D7.out.block _ LB.out).trans RB.out)
    go_wp2_with fail
    refine (C8.out w15 D7.out).mono ?_
    rintro e w16 ⟨rfl, nn, hh⟩
    have b := drew_below ⟨nn, hh⟩
    clear hh
    have D8 := Lib.hid (D7.out.trans (b.mono D7.out.size))
    clear b C8 p8 q8
    have p9 : w16.cell? ⟨w.heap.size, 9, none⟩ = some (.slice (a 9) T.pr.length (c 9)) := cell_of_row w16 _ 9 _ _ _ ((D8.out.block _ LA.out).trans RA.out)
    have q9 : w16.cell? ⟨w.heap.size + 1, 9, none⟩ = some (.slice (a' 9) U.pr.length (c' 9)) := cell_of_row w16 _ 9 _ _ _ ((D8.out.block _ LB.out).trans RB.out)
    have p10 : w16.cell? ⟨w.heap.size, 10, none⟩ = some (.int .i64 T.di) := cell_of_row w16 _ 10 _ _ _ ((D8.out.block _ LA.out).trans RA.out)
    have q10 : w16.cell? ⟨w.heap.size + 1, 10, none⟩ = some (.int .i64 U.di) := cell_of_row w16 _ 10 _ _ _ ((D8.out.block _ LB.out).trans RB.out)
    have p11 : w16.cell? ⟨w.heap.size, 11, none⟩ = some (.int .i64 T.wi) := cell_of_row w16 _ 11 _ _ _ ((D8.out.block _ LA.out).trans RA.out)
    have q11 : w16.cell? ⟨w.heap.size + 1, 11, none⟩ = some (.int .i64 U.wi) := cell_of_row w16 _ 11 _ _ _ ((D8.out.block _ LB.out).trans RB.out)
    have p12 : w16.cell? ⟨w.heap.size, 12, none⟩ = some (.int .i64 T.cp) := cell_of_row w16 _ 12 _ _ _ ((D8.out.block _ LA.out).trans RA.out)
    have q12 : w16.cell? ⟨w.heap.size + 1, 12, none⟩ = some (.int .i64 U.cp) := cell_of_row w16 _ 12 _ _ _ ((D8.out.block _ LB.out).trans RB.out)
    go_wp2_with fail
    refine (C9.out w16 D8.out).mono ?_
    rintro e w17 ⟨rfl, b⟩
    have D9 := Lib.hid (D8.out.trans (b.mono D8.out.size))
    clear b C9 p9 q9 p10 q10 p11 q11 p12 q12
    go_wp2_with fail
    go_ret
    exact ⟨ret_bool R.out.symm, B7.out.trans (D9.out.mono B7.out.size)⟩
  have R : Hid (V = true) := Lib.hid (by rw [← HV.out]; rfl)
  have p0 : w7.cell? ⟨w.heap.size, 0, none⟩ = some (.slice (a 0) T.st.length (c 0)) := cell_of_row w7 _ 0 _ _ _ (RA.out)
  have q0 : w7.cell? ⟨w.heap.size + 1, 0, none⟩ = some (.slice (a' 0) U.st.length (c' 0)) := cell_of_row w7 _ 0 _ _ _ (RB.out)
  go_enter Tryz.func12, Tryz.ntmps12
  go_wp2_with fail
  refine (C0.out w7 (Below.refl _ _)).mono ?_
  rintro e w8 ⟨rfl, nn, hh⟩
  have b := drew_below ⟨nn, hh⟩
  clear hh
  have D0 := Lib.hid (b)
  clear b C0 p0 q0
  have p1 : w8.cell? ⟨w.heap.size, 1, none⟩ = some (.slice (a 1) T.ro.length (c 1)) := cell_of_row w8 _ 1 _ _ _ ((D0.out.block _ LA.out).trans RA.out)
  have q1 : w8.cell? ⟨w.heap.size + 1, 1, none⟩ = some (.slice (a' 1) U.ro.length (c' 1)) := cell_of_row w8 _ 1 _ _ _ ((D0.out.block _ LB.out).trans RB.out)
  go_wp2_with fail
  refine (C1.out w8 D0.out).mono ?_
  rintro e w9 ⟨rfl, nn, hh⟩
  have b := drew_below ⟨nn, hh⟩
  clear hh
  have D1 := Lib.hid (D0.out.trans (b.mono D0.out.size))
  clear b C1 p1 q1
  have p2 : w9.cell? ⟨w.heap.size, 2, none⟩ = some (.slice (a 2) T.ca.length (c 2)) := cell_of_row w9 _ 2 _ _ _ ((D1.out.block _ LA.out).trans RA.out)
  have q2 : w9.cell? ⟨w.heap.size + 1, 2, none⟩ = some (.slice (a' 2) U.ca.length (c' 2)) := cell_of_row w9 _ 2 _ _ _ ((D1.out.block _ LB.out).trans RB.out)
  go_wp2_with fail
  refine (C2.out w9 D1.out).mono ?_
  rintro e w10 ⟨rfl, nn, hh⟩
  have b := drew_below ⟨nn, hh⟩
  clear hh
  have D2 := Lib.hid (D1.out.trans (b.mono D1.out.size))
  clear b C2 p2 q2
  have p3 : w10.cell? ⟨w.heap.size, 3, none⟩ = some (.slice (a 3) T.ex.length (c 3)) := cell_of_row w10 _ 3 _ _ _ ((D2.out.block _ LA.out).trans RA.out)
  have q3 : w10.cell? ⟨w.heap.size + 1, 3, none⟩ = some (.slice (a' 3) U.ex.length (c' 3)) := cell_of_row w10 _ 3 _ _ _ ((D2.out.block _ LB.out).trans RB.out)
  go_wp2_with fail
  refine (C3.out w10 D2.out).mono ?_
  rintro e w11 ⟨rfl, nn, hh⟩
  have b := drew_below ⟨nn, hh⟩
  clear hh
  have D3 := Lib.hid (D2.out.trans (b.mono D2.out.size))
  clear b C3 p3 q3
  have p4 : w11.cell? ⟨w.heap.size, 4, none⟩ = some (.slice (a 4) T.tr.length (c 4)) := cell_of_row w11 _ 4 _ _ _ ((D3.out.block _ LA.out).trans RA.out)
  have q4 : w11.cell? ⟨w.heap.size + 1, 4, none⟩ = some (.slice (a' 4) U.tr.length (c' 4)) := cell_of_row w11 _ 4 _ _ _ ((D3.out.block _ LB.out).trans RB.out)
  go_wp2_with fail
  refine (C4.out w11 D3.out).mono ?_
  rintro e w12 ⟨rfl, b⟩
  have D4 := Lib.hid (D3.out.trans (b.mono D3.out.size))
  clear b C4 p4 q4
  have p5 : w12.cell? ⟨w.heap.size, 5, none⟩ = some (.slice (a 5) T.fr.length (c 5)) := cell_of_row w12 _ 5 _ _ _ ((D4.out.block _ LA.out).trans RA.out)
  have q5 : w12.cell? ⟨w.heap.size + 1, 5, none⟩ = some (.slice (a' 5) U.fr.length (c' 5)) := cell_of_row w12 _ 5 _ _ _ ((D4.out.block _ LB.out).trans RB.out)
  go_wp2_with fail
  refine (C5.out w12 D4.out).mono ?_
  rintro e w13 ⟨rfl, nn, hh⟩
  have b := drew_below ⟨nn, hh⟩
  clear hh
  have D5 := Lib.hid (D4.out.trans (b.mono D4.out.size))
  clear b C5 p5 q5
  have p6 : w13.cell? ⟨w.heap.size, 6, none⟩ = some (.slice (a 6) T.th.length (c 6)) := cell_of_row w13 _ 6 _ _ _ ((D5.out.block _ LA.out).trans RA.out)
  have q6 : w13.cell? ⟨w.heap.size + 1, 6, none⟩ = some (.slice (a' 6) U.th.length (c' 6)) := cell_of_row w13 _ 6 _ _ _ ((D5.out.block _ LB.out).trans RB.out)
  go_wp2_with fail
  refine (C6.out w13 D5.out).mono ?_
  rintro e w14 ⟨rfl, nn, hh⟩
  have b := drew_below ⟨nn, hh⟩
  clear hh
  have D6 := Lib.hid (D5.out.trans (b.mono D5.out.size))
  clear b C6 p6 q6
  have p7 : w14.cell? ⟨w.heap.size, 7, none⟩ = some (.slice (a 7) T.gu.length (c 7)) := cell_of_row w14 _ 7 _ _ _ ((D6.out.block _ LA.out).trans RA.out)
  have q7 : w14.cell? ⟨w.heap.size + 1, 7, none⟩ = some (.slice (a' 7) U.gu.length (c' 7)) := cell_of_row w14 _ 7 _ _ _ ((D6.out.block _ LB.out).trans RB.out)
  go_wp2_with fail
  refine (C7.out w14 D6.out).mono ?_
  rintro e w15 ⟨rfl, nn, hh⟩
  have b := drew_below ⟨nn, hh⟩
  clear hh
  have D7 := Lib.hid (D6.out.trans (b.mono D6.out.size))
  clear b C7 p7 q7
  have p8 : w15.cell? ⟨w.heap.size, 8, none⟩ = some (.slice (a 8) T.pa.length (c 8)) := cell_of_row w15 _ 8 _ _ _ ((D7.out.block _ LA.out).trans RA.out)
  have q8 : w15.cell? ⟨w.heap.size + 1, 8, none⟩ = some (.slice (a' 8) U.pa.length (c' 8)) := cell_of_row w15 _ 8 _ _ _ ((D7.out.block _ LB.out).trans RB.out)
  go_wp2_with fail
  refine (C8.out w15 D7.out).mono ?_
  rintro e w16 ⟨rfl, nn, hh⟩
  have b := drew_below ⟨nn, hh⟩
  clear hh
  have D8 := Lib.hid (D7.out.trans (b.mono D7.out.size))
  clear b C8 p8 q8
  have p9 : w16.cell? ⟨w.heap.size, 9, none⟩ = some (.slice (a 9) T.pr.length (c 9)) := cell_of_row w16 _ 9 _ _ _ ((D8.out.block _ LA.out).trans RA.out)
  have q9 : w16.cell? ⟨w.heap.size + 1, 9, none⟩ = some (.slice (a' 9) U.pr.length (c' 9)) := cell_of_row w16 _ 9 _ _ _ ((D8.out.block _ LB.out).trans RB.out)
  have p10 : w16.cell? ⟨w.heap.size, 10, none⟩ = some (.int .i64 T.di) := cell_of_row w16 _ 10 _ _ _ ((D8.out.block _ LA.out).trans RA.out)
  have q10 : w16.cell? ⟨w.heap.size + 1, 10, none⟩ = some (.int .i64 U.di) := cell_of_row w16 _ 10 _ _ _ ((D8.out.block _ LB.out).trans RB.out)
  have p11 : w16.cell? ⟨w.heap.size, 11, none⟩ = some (.int .i64 T.wi) := cell_of_row w16 _ 11 _ _ _ ((D8.out.block _ LA.out).trans RA.out)
  have q11 : w16.cell? ⟨w.heap.size + 1, 11, none⟩ = some (.int .i64 U.wi) := cell_of_row w16 _ 11 _ _ _ ((D8.out.block _ LB.out).trans RB.out)
  have p12 : w16.cell? ⟨w.heap.size, 12, none⟩ = some (.int .i64 T.cp) := cell_of_row w16 _ 12 _ _ _ ((D8.out.block _ LA.out).trans RA.out)
  have q12 : w16.cell? ⟨w.heap.size + 1, 12, none⟩ = some (.int .i64 U.cp) := cell_of_row w16 _ 12 _ _ _ ((D8.out.block _ LB.out).trans RB.out)
  go_wp2_with fail
  refine (C9.out w16 D8.out).mono ?_
  rintro e w17 ⟨rfl, b⟩
  have D9 := Lib.hid (D8.out.trans (b.mono D8.out.size))
  clear b C9 p9 q9 p10 q10 p11 q11 p12 q12
  go_wp2_with fail
  go_ret
  exact ⟨ret_bool R.out.symm, B7.out.trans (D9.out.mono B7.out.size)⟩
end Go.Proofs.YtkhalnjgbdpfhaaGreat
