/-
  heads and tails of the reference of timetables: what each call answers; nothing that existed before the call has changed behind it. Condition: none.
-/
import Derived.Test.YtkhalnjgbdpfhaaGreatTtN
import Derived.Test.YtkhalnjgbdpfhaaGreatTte
namespace Go.Proofs.YtkhalnjgbdpfhaaGreat
open Go.RowKit

theorem hd_st {T U : Tt} (h : eqB eSt T.st U.st = false) : hdT T U = false := by unfold hdT; rw [h]; simp
theorem hd_ro {T U : Tt} (h : eqB eRo T.ro U.ro = false) : hdT T U = false := by unfold hdT; rw [h]; simp
theorem hd_ca {T U : Tt} (h : eqB eCa T.ca U.ca = false) : hdT T U = false := by unfold hdT; rw [h]; simp
theorem hd_ex {T U : Tt} (h : eqB eEx T.ex U.ex = false) : hdT T U = false := by unfold hdT; rw [h]; simp
set_option maxRecDepth 100000 in
set_option maxHeartbeats 8000000 in
theorem hd_any (a a' : Nat → Option Addr) (c c' : Nat → Nat) (T U : Tt) (hf : fewN T) (w : World) (h : TtL w a c T) (h' : TtL w a' c' U) : Calls Tryz.prog 27 #[ttV a c T, ttV a' c' U] w fun e w' => e = .returned (.bool (hdT T U)) ∧ Below w.heap.size w w' := by
  obtain ⟨w7, hw7, z7, ra, rb, b7⟩ := box_both w (boxTt a c T) (boxTt a' c' U)
  obtain ⟨p0, p1, p2, p3, p4, p5, p6, p7, p8, p9, p10, p11, p12⟩ := row_tt ra
  obtain ⟨q0, q1, q2, q3, q4, q5, q6, q7, q8, q9, q10, q11, q12⟩ := row_tt rb
  have B7 := Lib.hid b7
  have H := Lib.hid (h.below b7)
  have H' := Lib.hid (h'.below b7)
  have LA : Hid (w.heap.size < w7.heap.size) := Lib.hid (by omega)
  have LB : Hid (w.heap.size + 1 < w7.heap.size) := Lib.hid (by omega)
  obtain ⟨V, hV⟩ : ∃ q, hdT T U = q := ⟨_, rfl⟩
  rw [hV]
  have HV := Lib.hid hV
  have P0 := Lib.hid p0
  have P1 := Lib.hid p1
  have P2 := Lib.hid p2
  have P3 := Lib.hid p3
  have Q0 := Lib.hid q0
  have Q1 := Lib.hid q1
  have Q2 := Lib.hid q2
  have Q3 := Lib.hid q3
  obtain ⟨f0, f1, f2, f3, f4, f5, f6, f7, f8, f9⟩ := hf
  clear hV b7 ra rb z7 h h' f4 f5 f6 f7 f8 f9
  by_cases n0 : T.st.length ≠ U.st.length
  · have R : Hid (V = false) := Lib.hid (by rw [← HV.out]; exact hd_st (eq_len n0))
    have g0 : ((T.st.length : Int) != (U.st.length : Int)) = true := bne_true (by omega)
    clear n0
    go_enter Tryz.func27, Tryz.ntmps27
    go_wp2_with fail
    go_ret
    exact ⟨ret_bool R.out.symm, B7.out⟩
  have m0 := Decidable.not_not.1 n0
  clear n0
  have g0 : ((T.st.length : Int) != (U.st.length : Int)) = false := neq_false (by omega)
  by_cases n1 : T.ro.length ≠ U.ro.length
  · have R : Hid (V = false) := Lib.hid (by rw [← HV.out]; exact hd_ro (eq_len n1))
    have g1 : ((T.ro.length : Int) != (U.ro.length : Int)) = true := bne_true (by omega)
    clear n1 m0
    go_enter Tryz.func27, Tryz.ntmps27
    go_wp2_with fail
    go_ret
    exact ⟨ret_bool R.out.symm, B7.out⟩
  have m1 := Decidable.not_not.1 n1
  clear n1
  have g1 : ((T.ro.length : Int) != (U.ro.length : Int)) = false := neq_false (by omega)
  by_cases n2 : T.ca.length ≠ U.ca.length
  · have R : Hid (V = false) := Lib.hid (by rw [← HV.out]; exact hd_ca (eq_len n2))
    have g2 : ((T.ca.length : Int) != (U.ca.length : Int)) = true := bne_true (by omega)
    clear n2 m0 m1
    go_enter Tryz.func27, Tryz.ntmps27
    go_wp2_with fail
    go_ret
    exact ⟨ret_bool R.out.symm, B7.out⟩
  have m2 := Decidable.not_not.1 n2
  clear n2
  have g2 : ((T.ca.length : Int) != (U.ca.length : Int)) = false := neq_false (by omega)
  by_cases n3 : T.ex.length ≠ U.ex.length
  · have R : Hid (V = false) := Lib.hid (by rw [← HV.out]; exact hd_ex (eq_len n3))
    have g3 : ((T.ex.length : Int) != (U.ex.length : Int)) = true := bne_true (by omega)
    clear n3 m0 m1 m2
    go_enter Tryz.func27, Tryz.ntmps27
    go_wp2_with fail
    go_ret
    exact ⟨ret_bool R.out.symm, B7.out⟩
  have m3 := Decidable.not_not.1 n3
  clear n3
  have g3 : ((T.ex.length : Int) != (U.ex.length : Int)) = false := neq_false (by omega)
  have Lst := Lib.hid m0
  have Lro := Lib.hid m1
  have Lca := Lib.hid m2
  have Lex := Lib.hid m3
  clear m0 m1 m2 m3
  have HN : Hid (∃ n, w7 = w7.drewN n) := Lib.hid ⟨0, rfl⟩
  go_enter Tryz.func27, Tryz.ntmps27
  go_wp2_with fail
  go_loopw [5] (fun i wr => ∃ k : Nat, i = .int .i64 k ∧ k ≤ T.st.length ∧ Hid (∀ (j : Nat) x y, j < k → T.st[j]? = some x → U.st[j]? = some y → eSt x y = true) ∧ Hid (∃ n, wr = w7.drewN n)) (fun i _ => T.st.length - (intOf i).toNat)
  case atStart => exact ⟨0, rfl, Nat.zero_le _, Lib.hid (fun j x y h => absurd h (Nat.not_lt_zero _)), HN⟩
  case round =>
    clear HN
    obtain ⟨k, rfl, hk, hall, HN⟩ := hrel
    have bn := drew_below HN.out
    have p0 := (bn.cell (p := ⟨w.heap.size, 0, none⟩) LA.out).trans P0.out
    have q0 := (bn.cell (p := ⟨w.heap.size + 1, 0, none⟩) LB.out).trans Q0.out
    by_cases hlt : k < T.st.length
    · obtain ⟨⟨id, z, f, h⟩, hx⟩ := at_lt hlt
      obtain ⟨⟨id', z', f', h'⟩, hy⟩ := at_lt (show k < U.st.length by have := Lst.out; omega)
      have gk : (k : Int) < (T.st.length : Int) := by omega
      have gk' : (k : Int) < (U.st.length : Int) := by have := Lst.out; omega
      by_cases he : id = id' ∧ z = z' ∧ f = f' ∧ h = h'
      · obtain ⟨rfl, rfl, rfl, rfl⟩ := he
        obtain ⟨nm, hnm⟩ : ∃ nm, str id = nm := ⟨_, rfl⟩
        obtain ⟨rb, ro, rA, -, r0, r1, r2, r3⟩ := S13.four_at (H.out.st.below bn) hx hnm
        rw [rA] at p0
        obtain ⟨sb, so, sA, -, s0, s1, s2, s3⟩ := S13.four_at (H'.out.st.below bn) hy hnm
        rw [sA] at q0
        have E := fun W => neq_st_same nm z f h W
        have N := Lib.hid (eq_more hall.out hx hy (decide_eq_true rfl))
        clear hx hy hall bn hk hlt hnm rA sA
        go_wp2_with fail
        go_quiet (fail)
        have hq := drew_on HN nq
        generalize wr.drewN nq = w9 at hq ⊢
        clear HN
        go_wp2_with fail
        go_roundw
        case rel => exact ⟨k + 1, by go_num, by omega, N, hq⟩
        case measure => simp [intOf]; omega
      · obtain ⟨nm, hnm⟩ : ∃ nm, str id = nm := ⟨_, rfl⟩
        obtain ⟨nm', hnm'⟩ : ∃ nm, str id' = nm := ⟨_, rfl⟩
        obtain ⟨rb, ro, rA, -, r0, r1, r2, r3⟩ := S13.four_at (H.out.st.below bn) hx hnm
        rw [rA] at p0
        obtain ⟨sb, so, sA, -, s0, s1, s2, s3⟩ := S13.four_at (H'.out.st.below bn) hy hnm'
        rw [sA] at q0
        have E := fun W => neq_st_no nm nm' z z' f f' h h' (fun g => he ⟨str_inj (by rw [hnm, hnm']; exact g.1), g.2⟩) W
        have R : Hid (V = false) := Lib.hid (by rw [← HV.out]; exact hd_st (eq_diff hx hy (decide_eq_false (fun g => he (by cases g; exact ⟨rfl, rfl, rfl, rfl⟩)))))
        clear hx hy hall bn hk hlt he hnm hnm' rA sA
        go_wp2_with fail
        go_quiet (fail)
        have hq := drew_on HN nq
        generalize wr.drewN nq = w9 at hq ⊢
        go_wp2_with fail
        go_ret
        exact ⟨ret_bool R.out.symm, B7.out.trans ((drew_below hq.out).mono B7.out.size)⟩
    · have dk : decide (k < T.st.length) = false := by rw [decide_eq_false_iff_not]; exact hlt
      have Est := Lib.hid (eq_end Lst.out (fun j x y hj => hall.out j x y (by omega)))
      clear hall hlt hk
      have p1 := (bn.cell (p := ⟨w.heap.size, 1, none⟩) LA.out).trans P1.out
      clear bn
      go_wp2_with fail
      go_loopw [6] (fun i wr => ∃ k : Nat, i = .int .i64 k ∧ k ≤ T.ro.length ∧ Hid (∀ (j : Nat) x y, j < k → T.ro[j]? = some x → U.ro[j]? = some y → eRo x y = true) ∧ Hid (∃ n, wr = w7.drewN n)) (fun i _ => T.ro.length - (intOf i).toNat)
      case atStart => exact ⟨0, rfl, Nat.zero_le _, Lib.hid (fun j x y h => absurd h (Nat.not_lt_zero _)), HN⟩
      case round =>
        clear HN
        obtain ⟨k, rfl, hk, hall, HN⟩ := hrel
        have bn := drew_below HN.out
        have p1 := (bn.cell (p := ⟨w.heap.size, 1, none⟩) LA.out).trans P1.out
        have q1 := (bn.cell (p := ⟨w.heap.size + 1, 1, none⟩) LB.out).trans Q1.out
        by_cases hlt : k < T.ro.length
        · obtain ⟨⟨id, z, f⟩, hx⟩ := at_lt hlt
          obtain ⟨⟨id', z', f'⟩, hy⟩ := at_lt (show k < U.ro.length by have := Lro.out; omega)
          have gk : (k : Int) < (T.ro.length : Int) := by omega
          have gk' : (k : Int) < (U.ro.length : Int) := by have := Lro.out; omega
          by_cases he : id = id' ∧ z = z' ∧ f = f'
          · obtain ⟨rfl, rfl, rfl⟩ := he
            obtain ⟨nm, hnm⟩ : ∃ nm, str id = nm := ⟨_, rfl⟩
            obtain ⟨rb, ro, rA, -, r0, r1, r2⟩ := S15.three_at (H.out.ro.below bn) hx hnm
            rw [rA] at p1
            obtain ⟨sb, so, sA, -, s0, s1, s2⟩ := S15.three_at (H'.out.ro.below bn) hy hnm
            rw [sA] at q1
            have E := fun W => neq_ro_same nm z f W
            have N := Lib.hid (eq_more hall.out hx hy (decide_eq_true rfl))
            clear hx hy hall bn hk hlt hnm rA sA
            go_wp2_with fail
            go_quiet (fail)
            have hq := drew_on HN nq
            generalize wr.drewN nq = w9 at hq ⊢
            clear HN
            go_wp2_with fail
            go_roundw
            case rel => exact ⟨k + 1, by go_num, by omega, N, hq⟩
            case measure => simp [intOf]; omega
          · obtain ⟨nm, hnm⟩ : ∃ nm, str id = nm := ⟨_, rfl⟩
            obtain ⟨nm', hnm'⟩ : ∃ nm, str id' = nm := ⟨_, rfl⟩
            obtain ⟨rb, ro, rA, -, r0, r1, r2⟩ := S15.three_at (H.out.ro.below bn) hx hnm
            rw [rA] at p1
            obtain ⟨sb, so, sA, -, s0, s1, s2⟩ := S15.three_at (H'.out.ro.below bn) hy hnm'
            rw [sA] at q1
            have E := fun W => neq_ro_no nm nm' z z' f f' (fun g => he ⟨str_inj (by rw [hnm, hnm']; exact g.1), g.2⟩) W
            have R : Hid (V = false) := Lib.hid (by rw [← HV.out]; exact hd_ro (eq_diff hx hy (decide_eq_false (fun g => he (by cases g; exact ⟨rfl, rfl, rfl⟩)))))
            clear hx hy hall bn hk hlt he hnm hnm' rA sA
            go_wp2_with fail
            go_quiet (fail)
            have hq := drew_on HN nq
            generalize wr.drewN nq = w9 at hq ⊢
            go_wp2_with fail
            go_ret
            exact ⟨ret_bool R.out.symm, B7.out.trans ((drew_below hq.out).mono B7.out.size)⟩
        · have dk : decide (k < T.ro.length) = false := by rw [decide_eq_false_iff_not]; exact hlt
          have Ero := Lib.hid (eq_end Lro.out (fun j x y hj => hall.out j x y (by omega)))
          clear hall hlt hk
          have p2 := (bn.cell (p := ⟨w.heap.size, 2, none⟩) LA.out).trans P2.out
          clear bn
          go_wp2_with fail
          go_loopw [7] (fun i wr => ∃ k : Nat, i = .int .i64 k ∧ k ≤ T.ca.length ∧ Hid (∀ (j : Nat) x y, j < k → T.ca[j]? = some x → U.ca[j]? = some y → eCa x y = true) ∧ Hid (∃ n, wr = w7.drewN n)) (fun i _ => T.ca.length - (intOf i).toNat)
          case atStart => exact ⟨0, rfl, Nat.zero_le _, Lib.hid (fun j x y h => absurd h (Nat.not_lt_zero _)), HN⟩
          case round =>
            clear HN
            obtain ⟨k, rfl, hk, hall, HN⟩ := hrel
            have bn := drew_below HN.out
            have p2 := (bn.cell (p := ⟨w.heap.size, 2, none⟩) LA.out).trans P2.out
            have q2 := (bn.cell (p := ⟨w.heap.size + 1, 2, none⟩) LB.out).trans Q2.out
            by_cases hlt : k < T.ca.length
            · obtain ⟨⟨id, kw, f, t⟩, hx⟩ := at_lt hlt
              obtain ⟨⟨id', kw', f', t'⟩, hy⟩ := at_lt (show k < U.ca.length by have := Lca.out; omega)
              have gk : (k : Int) < (T.ca.length : Int) := by omega
              have gk' : (k : Int) < (U.ca.length : Int) := by have := Lca.out; omega
              by_cases he : id = id' ∧ (kw 0 = kw' 0 ∧ kw 1 = kw' 1 ∧ kw 2 = kw' 2 ∧ kw 3 = kw' 3 ∧ kw 4 = kw' 4 ∧ kw 5 = kw' 5 ∧ kw 6 = kw' 6) ∧ f = f' ∧ t = t'
              · obtain ⟨rfl, ⟨g0, g1, g2, g3, g4, g5, g6⟩, rfl, rfl⟩ := he
                obtain ⟨nm, hnm⟩ : ∃ nm, str id = nm := ⟨_, rfl⟩
                obtain ⟨rb, ro, rA, -, r0, rm, r8, r9⟩ := S14.ten_at (H.out.ca.below bn) hx hnm
                have r1 : wr.cell? ⟨rb, ro + k * 10 + 1, none⟩ = some (.bool (kw 0)) := rm 0 (by omega)
                have r2 : wr.cell? ⟨rb, ro + k * 10 + 2, none⟩ = some (.bool (kw 1)) := rm 1 (by omega)
                have r3 : wr.cell? ⟨rb, ro + k * 10 + 3, none⟩ = some (.bool (kw 2)) := rm 2 (by omega)
                have r4 : wr.cell? ⟨rb, ro + k * 10 + 4, none⟩ = some (.bool (kw 3)) := rm 3 (by omega)
                have r5 : wr.cell? ⟨rb, ro + k * 10 + 5, none⟩ = some (.bool (kw 4)) := rm 4 (by omega)
                have r6 : wr.cell? ⟨rb, ro + k * 10 + 6, none⟩ = some (.bool (kw 5)) := rm 5 (by omega)
                have r7 : wr.cell? ⟨rb, ro + k * 10 + 7, none⟩ = some (.bool (kw 6)) := rm 6 (by omega)
                rw [rA] at p2
                obtain ⟨sb, so, sA, -, s0, sm, s8, s9⟩ := S14.ten_at (H'.out.ca.below bn) hy hnm
                have s1 : wr.cell? ⟨sb, so + k * 10 + 1, none⟩ = some (.bool (kw' 0)) := sm 0 (by omega)
                have s2 : wr.cell? ⟨sb, so + k * 10 + 2, none⟩ = some (.bool (kw' 1)) := sm 1 (by omega)
                have s3 : wr.cell? ⟨sb, so + k * 10 + 3, none⟩ = some (.bool (kw' 2)) := sm 2 (by omega)
                have s4 : wr.cell? ⟨sb, so + k * 10 + 4, none⟩ = some (.bool (kw' 3)) := sm 3 (by omega)
                have s5 : wr.cell? ⟨sb, so + k * 10 + 5, none⟩ = some (.bool (kw' 4)) := sm 4 (by omega)
                have s6 : wr.cell? ⟨sb, so + k * 10 + 6, none⟩ = some (.bool (kw' 5)) := sm 5 (by omega)
                have s7 : wr.cell? ⟨sb, so + k * 10 + 7, none⟩ = some (.bool (kw' 6)) := sm 6 (by omega)
                rw [sA] at q2
                rw [← g0] at s1
                rw [← g1] at s2
                rw [← g2] at s3
                rw [← g3] at s4
                rw [← g4] at s5
                rw [← g5] at s6
                rw [← g6] at s7
                have E := fun W => neq_ca_same nm (kw 0) (kw 1) (kw 2) (kw 3) (kw 4) (kw 5) (kw 6) f t W
                have N := Lib.hid (eq_more hall.out hx hy (decide_eq_true ⟨rfl, ⟨g0, g1, g2, g3, g4, g5, g6⟩, rfl, rfl⟩))
                clear hx hy hall bn hk hlt hnm rm sm g0 g1 g2 g3 g4 g5 g6 rA sA
                go_wp2_with fail
                go_quiet (fail)
                have hq := drew_on HN nq
                generalize wr.drewN nq = w9 at hq ⊢
                clear HN
                go_wp2_with fail
                go_roundw
                case rel => exact ⟨k + 1, by go_num, by omega, N, hq⟩
                case measure => simp [intOf]; omega
              · obtain ⟨nm, hnm⟩ : ∃ nm, str id = nm := ⟨_, rfl⟩
                obtain ⟨nm', hnm'⟩ : ∃ nm, str id' = nm := ⟨_, rfl⟩
                obtain ⟨rb, ro, rA, -, r0, rm, r8, r9⟩ := S14.ten_at (H.out.ca.below bn) hx hnm
                have r1 : wr.cell? ⟨rb, ro + k * 10 + 1, none⟩ = some (.bool (kw 0)) := rm 0 (by omega)
                have r2 : wr.cell? ⟨rb, ro + k * 10 + 2, none⟩ = some (.bool (kw 1)) := rm 1 (by omega)
                have r3 : wr.cell? ⟨rb, ro + k * 10 + 3, none⟩ = some (.bool (kw 2)) := rm 2 (by omega)
                have r4 : wr.cell? ⟨rb, ro + k * 10 + 4, none⟩ = some (.bool (kw 3)) := rm 3 (by omega)
                have r5 : wr.cell? ⟨rb, ro + k * 10 + 5, none⟩ = some (.bool (kw 4)) := rm 4 (by omega)
                have r6 : wr.cell? ⟨rb, ro + k * 10 + 6, none⟩ = some (.bool (kw 5)) := rm 5 (by omega)
                have r7 : wr.cell? ⟨rb, ro + k * 10 + 7, none⟩ = some (.bool (kw 6)) := rm 6 (by omega)
                rw [rA] at p2
                obtain ⟨sb, so, sA, -, s0, sm, s8, s9⟩ := S14.ten_at (H'.out.ca.below bn) hy hnm'
                have s1 : wr.cell? ⟨sb, so + k * 10 + 1, none⟩ = some (.bool (kw' 0)) := sm 0 (by omega)
                have s2 : wr.cell? ⟨sb, so + k * 10 + 2, none⟩ = some (.bool (kw' 1)) := sm 1 (by omega)
                have s3 : wr.cell? ⟨sb, so + k * 10 + 3, none⟩ = some (.bool (kw' 2)) := sm 2 (by omega)
                have s4 : wr.cell? ⟨sb, so + k * 10 + 4, none⟩ = some (.bool (kw' 3)) := sm 3 (by omega)
                have s5 : wr.cell? ⟨sb, so + k * 10 + 5, none⟩ = some (.bool (kw' 4)) := sm 4 (by omega)
                have s6 : wr.cell? ⟨sb, so + k * 10 + 6, none⟩ = some (.bool (kw' 5)) := sm 5 (by omega)
                have s7 : wr.cell? ⟨sb, so + k * 10 + 7, none⟩ = some (.bool (kw' 6)) := sm 6 (by omega)
                rw [sA] at q2
                have E := fun W => neq_ca_no nm nm' (kw 0) (kw' 0) (kw 1) (kw' 1) (kw 2) (kw' 2) (kw 3) (kw' 3) (kw 4) (kw' 4) (kw 5) (kw' 5) (kw 6) (kw' 6) f f' t t' (fun g => he ⟨str_inj (by rw [hnm, hnm']; exact g.1), ⟨g.2.1, g.2.2.1, g.2.2.2.1, g.2.2.2.2.1, g.2.2.2.2.2.1, g.2.2.2.2.2.2.1, g.2.2.2.2.2.2.2.1⟩, g.2.2.2.2.2.2.2.2.1, g.2.2.2.2.2.2.2.2.2⟩) W
                have R : Hid (V = false) := Lib.hid (by rw [← HV.out]; exact hd_ca (eq_diff hx hy (decide_eq_false (fun g => he g))))
                clear hx hy hall bn hk hlt he hnm hnm' rm sm rA sA
                go_wp2_with fail
                go_quiet (fail)
                have hq := drew_on HN nq
                generalize wr.drewN nq = w9 at hq ⊢
                go_wp2_with fail
                go_ret
                exact ⟨ret_bool R.out.symm, B7.out.trans ((drew_below hq.out).mono B7.out.size)⟩
            · have dk : decide (k < T.ca.length) = false := by rw [decide_eq_false_iff_not]; exact hlt
              have Eca := Lib.hid (eq_end Lca.out (fun j x y hj => hall.out j x y (by omega)))
              clear hall hlt hk
              have p3 := (bn.cell (p := ⟨w.heap.size, 3, none⟩) LA.out).trans P3.out
              clear bn
              go_wp2_with fail
              go_loopw [8] (fun i wr => ∃ k : Nat, i = .int .i64 k ∧ k ≤ T.ex.length ∧ Hid (∀ (j : Nat) x y, j < k → T.ex[j]? = some x → U.ex[j]? = some y → eEx x y = true) ∧ Hid (∃ n, wr = w7.drewN n)) (fun i _ => T.ex.length - (intOf i).toNat)
              case atStart => exact ⟨0, rfl, Nat.zero_le _, Lib.hid (fun j x y h => absurd h (Nat.not_lt_zero _)), HN⟩
              case round =>
                clear HN
                obtain ⟨k, rfl, hk, hall, HN⟩ := hrel
                have bn := drew_below HN.out
                have p3 := (bn.cell (p := ⟨w.heap.size, 3, none⟩) LA.out).trans P3.out
                have q3 := (bn.cell (p := ⟨w.heap.size + 1, 3, none⟩) LB.out).trans Q3.out
                by_cases hlt : k < T.ex.length
                · obtain ⟨⟨z, d, f⟩, hx⟩ := at_lt hlt
                  obtain ⟨⟨z', d', f'⟩, hy⟩ := at_lt (show k < U.ex.length by have := Lex.out; omega)
                  have gk : (k : Int) < (T.ex.length : Int) := by omega
                  have gk' : (k : Int) < (U.ex.length : Int) := by have := Lex.out; omega
                  by_cases he : z = z' ∧ d = d' ∧ f = f'
                  · obtain ⟨rfl, rfl, rfl⟩ := he
                    obtain ⟨rb, ro, rA, -, r0, r1, r2⟩ := S14.three_at (H.out.ex.below bn) hx
                    rw [rA] at p3
                    obtain ⟨sb, so, sA, -, s0, s1, s2⟩ := S14.three_at (H'.out.ex.below bn) hy
                    rw [sA] at q3
                    have E := fun W => neq_ex_same z d f W
                    have N := Lib.hid (eq_more hall.out hx hy (decide_eq_true rfl))
                    clear hx hy hall bn hk hlt rA sA
                    go_wp2_with fail
                    go_quiet (fail)
                    have hq := drew_on HN nq
                    generalize wr.drewN nq = w9 at hq ⊢
                    clear HN
                    go_wp2_with fail
                    go_roundw
                    case rel => exact ⟨k + 1, by go_num, by omega, N, hq⟩
                    case measure => simp [intOf]; omega
                  · obtain ⟨rb, ro, rA, -, r0, r1, r2⟩ := S14.three_at (H.out.ex.below bn) hx
                    rw [rA] at p3
                    obtain ⟨sb, so, sA, -, s0, s1, s2⟩ := S14.three_at (H'.out.ex.below bn) hy
                    rw [sA] at q3
                    have E := fun W => neq_ex_no z z' d d' f f' (he) W
                    have R : Hid (V = false) := Lib.hid (by rw [← HV.out]; exact hd_ex (eq_diff hx hy (decide_eq_false (fun g => he (by cases g; exact ⟨rfl, rfl, rfl⟩)))))
                    clear hx hy hall bn hk hlt he rA sA
                    go_wp2_with fail
                    go_quiet (fail)
                    have hq := drew_on HN nq
                    generalize wr.drewN nq = w9 at hq ⊢
                    go_wp2_with fail
                    go_ret
                    exact ⟨ret_bool R.out.symm, B7.out.trans ((drew_below hq.out).mono B7.out.size)⟩
                · have dk : decide (k < T.ex.length) = false := by rw [decide_eq_false_iff_not]; exact hlt
                  have Eex := Lib.hid (eq_end Lex.out (fun j x y hj => hall.out j x y (by omega)))
                  clear hall hlt hk
                  have R : Hid (V = true) := Lib.hid (by rw [← HV.out]; unfold hdT; rw [Est.out, Ero.out, Eca.out, Eex.out]; rfl)
                  go_wp2_with fail
                  go_ret
                  exact ⟨ret_bool R.out.symm, B7.out.trans ((drew_below HN.out).mono B7.out.size)⟩
theorem tl_fr {T U : Tt} (h : eqB eFr T.fr U.fr = false) : tlT T U = false := by unfold tlT; rw [h]; simp
theorem tl_th {T U : Tt} (h : eqB eTh T.th U.th = false) : tlT T U = false := by unfold tlT; rw [h]; simp
theorem tl_gu {T U : Tt} (h : eqB eGu T.gu U.gu = false) : tlT T U = false := by unfold tlT; rw [h]; simp
theorem tl_pa {T U : Tt} (h : eqB ePa T.pa U.pa = false) : tlT T U = false := by unfold tlT; rw [h]; simp
theorem tl_pr {T U : Tt} (h : eqB ePr T.pr U.pr = false) : tlT T U = false := by unfold tlT; rw [h]; simp
set_option maxRecDepth 100000 in
set_option maxHeartbeats 8000000 in
theorem tl_any (a a' : Nat → Option Addr) (c c' : Nat → Nat) (T U : Tt) (hf : fewN T) (w : World) (h : TtL w a c T) (h' : TtL w a' c' U) : Calls Tryz.prog 29 #[ttV a c T, ttV a' c' U] w fun e w' => e = .returned (.bool (tlT T U)) ∧ Below w.heap.size w w' := by
  obtain ⟨w7, hw7, z7, ra, rb, b7⟩ := box_both w (boxTt a c T) (boxTt a' c' U)
  obtain ⟨p0, p1, p2, p3, p4, p5, p6, p7, p8, p9, p10, p11, p12⟩ := row_tt ra
  obtain ⟨q0, q1, q2, q3, q4, q5, q6, q7, q8, q9, q10, q11, q12⟩ := row_tt rb
  have B7 := Lib.hid b7
  have H := Lib.hid (h.below b7)
  have H' := Lib.hid (h'.below b7)
  have LA : Hid (w.heap.size < w7.heap.size) := Lib.hid (by omega)
  have LB : Hid (w.heap.size + 1 < w7.heap.size) := Lib.hid (by omega)
  obtain ⟨V, hV⟩ : ∃ q, tlT T U = q := ⟨_, rfl⟩
  rw [hV]
  have HV := Lib.hid hV
  have P5 := Lib.hid p5
  have P6 := Lib.hid p6
  have P7 := Lib.hid p7
  have P8 := Lib.hid p8
  have P9 := Lib.hid p9
  have Q5 := Lib.hid q5
  have Q6 := Lib.hid q6
  have Q7 := Lib.hid q7
  have Q8 := Lib.hid q8
  have Q9 := Lib.hid q9
  obtain ⟨f0, f1, f2, f3, f4, f5, f6, f7, f8, f9⟩ := hf
  clear hV b7 ra rb z7 h h' f0 f1 f2 f3 f4
  by_cases n0 : T.fr.length ≠ U.fr.length
  · have R : Hid (V = false) := Lib.hid (by rw [← HV.out]; exact tl_fr (eq_len n0))
    have g0 : ((T.fr.length : Int) != (U.fr.length : Int)) = true := bne_true (by omega)
    clear n0
    go_enter Tryz.func29, Tryz.ntmps29
    go_wp2_with fail
    go_ret
    exact ⟨ret_bool R.out.symm, B7.out⟩
  have m0 := Decidable.not_not.1 n0
  clear n0
  have g0 : ((T.fr.length : Int) != (U.fr.length : Int)) = false := neq_false (by omega)
  by_cases n1 : T.th.length ≠ U.th.length
  · have R : Hid (V = false) := Lib.hid (by rw [← HV.out]; exact tl_th (eq_len n1))
    have g1 : ((T.th.length : Int) != (U.th.length : Int)) = true := bne_true (by omega)
    clear n1 m0
    go_enter Tryz.func29, Tryz.ntmps29
    go_wp2_with fail
    go_ret
    exact ⟨ret_bool R.out.symm, B7.out⟩
  have m1 := Decidable.not_not.1 n1
  clear n1
  have g1 : ((T.th.length : Int) != (U.th.length : Int)) = false := neq_false (by omega)
  by_cases n2 : T.gu.length ≠ U.gu.length
  · have R : Hid (V = false) := Lib.hid (by rw [← HV.out]; exact tl_gu (eq_len n2))
    have g2 : ((T.gu.length : Int) != (U.gu.length : Int)) = true := bne_true (by omega)
    clear n2 m0 m1
    go_enter Tryz.func29, Tryz.ntmps29
    go_wp2_with fail
    go_ret
    exact ⟨ret_bool R.out.symm, B7.out⟩
  have m2 := Decidable.not_not.1 n2
  clear n2
  have g2 : ((T.gu.length : Int) != (U.gu.length : Int)) = false := neq_false (by omega)
  by_cases n3 : T.pa.length ≠ U.pa.length
  · have R : Hid (V = false) := Lib.hid (by rw [← HV.out]; exact tl_pa (eq_len n3))
    have g3 : ((T.pa.length : Int) != (U.pa.length : Int)) = true := bne_true (by omega)
    clear n3 m0 m1 m2
    go_enter Tryz.func29, Tryz.ntmps29
    go_wp2_with fail
    go_ret
    exact ⟨ret_bool R.out.symm, B7.out⟩
  have m3 := Decidable.not_not.1 n3
  clear n3
  have g3 : ((T.pa.length : Int) != (U.pa.length : Int)) = false := neq_false (by omega)
  by_cases n4 : T.pr.length ≠ U.pr.length
  · have R : Hid (V = false) := Lib.hid (by rw [← HV.out]; exact tl_pr (eq_len n4))
    have g4 : ((T.pr.length : Int) != (U.pr.length : Int)) = true := bne_true (by omega)
    clear n4 m0 m1 m2 m3
    go_enter Tryz.func29, Tryz.ntmps29
    go_wp2_with fail
    go_ret
    exact ⟨ret_bool R.out.symm, B7.out⟩
  have m4 := Decidable.not_not.1 n4
  clear n4
  have g4 : ((T.pr.length : Int) != (U.pr.length : Int)) = false := neq_false (by omega)
  have Lfr := Lib.hid m0
  have Lth := Lib.hid m1
  have Lgu := Lib.hid m2
  have Lpa := Lib.hid m3
  have Lpr := Lib.hid m4
  clear m0 m1 m2 m3 m4
  have HN : Hid (∃ n, w7 = w7.drewN n) := Lib.hid ⟨0, rfl⟩
  go_enter Tryz.func29, Tryz.ntmps29
  go_wp2_with fail
  go_loopw [5] (fun i wr => ∃ k : Nat, i = .int .i64 k ∧ k ≤ T.fr.length ∧ Hid (∀ (j : Nat) x y, j < k → T.fr[j]? = some x → U.fr[j]? = some y → eFr x y = true) ∧ Hid (∃ n, wr = w7.drewN n)) (fun i _ => T.fr.length - (intOf i).toNat)
  case atStart => exact ⟨0, rfl, Nat.zero_le _, Lib.hid (fun j x y h => absurd h (Nat.not_lt_zero _)), HN⟩
  case round =>
    clear HN
    obtain ⟨k, rfl, hk, hall, HN⟩ := hrel
    have bn := drew_below HN.out
    have p5 := (bn.cell (p := ⟨w.heap.size, 5, none⟩) LA.out).trans P5.out
    have q5 := (bn.cell (p := ⟨w.heap.size + 1, 5, none⟩) LB.out).trans Q5.out
    by_cases hlt : k < T.fr.length
    · obtain ⟨⟨t, z, u, v⟩, hx⟩ := at_lt hlt
      obtain ⟨⟨t', z', u', v'⟩, hy⟩ := at_lt (show k < U.fr.length by have := Lfr.out; omega)
      have gk : (k : Int) < (T.fr.length : Int) := by omega
      have gk' : (k : Int) < (U.fr.length : Int) := by have := Lfr.out; omega
      by_cases he : t = t' ∧ z = z' ∧ u = u' ∧ v = v'
      · obtain ⟨rfl, rfl, rfl, rfl⟩ := he
        obtain ⟨rb, ro, rA, -, r0, r1, r2, r3⟩ := four_at (H.out.fr.below bn) hx
        rw [rA] at p5
        obtain ⟨sb, so, sA, -, s0, s1, s2, s3⟩ := four_at (H'.out.fr.below bn) hy
        rw [sA] at q5
        have E := fun W => neq_fr_same t z u v W
        have N := Lib.hid (eq_more hall.out hx hy (decide_eq_true rfl))
        clear hx hy hall bn hk hlt rA sA
        go_wp2_with fail
        go_quiet (fail)
        have hq := drew_on HN nq
        generalize wr.drewN nq = w9 at hq ⊢
        clear HN
        go_wp2_with fail
        go_roundw
        case rel => exact ⟨k + 1, by go_num, by omega, N, hq⟩
        case measure => simp [intOf]; omega
      · obtain ⟨rb, ro, rA, -, r0, r1, r2, r3⟩ := four_at (H.out.fr.below bn) hx
        rw [rA] at p5
        obtain ⟨sb, so, sA, -, s0, s1, s2, s3⟩ := four_at (H'.out.fr.below bn) hy
        rw [sA] at q5
        have E := fun W => neq_fr_no t t' z z' u u' v v' (he) W
        have R : Hid (V = false) := Lib.hid (by rw [← HV.out]; exact tl_fr (eq_diff hx hy (decide_eq_false (fun g => he (by cases g; exact ⟨rfl, rfl, rfl, rfl⟩)))))
        clear hx hy hall bn hk hlt he rA sA
        go_wp2_with fail
        go_quiet (fail)
        have hq := drew_on HN nq
        generalize wr.drewN nq = w9 at hq ⊢
        go_wp2_with fail
        go_ret
        exact ⟨ret_bool R.out.symm, B7.out.trans ((drew_below hq.out).mono B7.out.size)⟩
    · have dk : decide (k < T.fr.length) = false := by rw [decide_eq_false_iff_not]; exact hlt
      have Efr := Lib.hid (eq_end Lfr.out (fun j x y hj => hall.out j x y (by omega)))
      clear hall hlt hk
      have p6 := (bn.cell (p := ⟨w.heap.size, 6, none⟩) LA.out).trans P6.out
      clear bn
      go_wp2_with fail
      go_loopw [6] (fun i wr => ∃ k : Nat, i = .int .i64 k ∧ k ≤ T.th.length ∧ Hid (∀ (j : Nat) x y, j < k → T.th[j]? = some x → U.th[j]? = some y → eTh x y = true) ∧ Hid (∃ n, wr = w7.drewN n)) (fun i _ => T.th.length - (intOf i).toNat)
      case atStart => exact ⟨0, rfl, Nat.zero_le _, Lib.hid (fun j x y h => absurd h (Nat.not_lt_zero _)), HN⟩
      case round =>
        clear HN
        obtain ⟨k, rfl, hk, hall, HN⟩ := hrel
        have bn := drew_below HN.out
        have p6 := (bn.cell (p := ⟨w.heap.size, 6, none⟩) LA.out).trans P6.out
        have q6 := (bn.cell (p := ⟨w.heap.size + 1, 6, none⟩) LB.out).trans Q6.out
        by_cases hlt : k < T.th.length
        · obtain ⟨⟨z, u⟩, hx⟩ := at_lt hlt
          obtain ⟨⟨z', u'⟩, hy⟩ := at_lt (show k < U.th.length by have := Lth.out; omega)
          have gk : (k : Int) < (T.th.length : Int) := by omega
          have gk' : (k : Int) < (U.th.length : Int) := by have := Lth.out; omega
          by_cases he : z = z' ∧ u = u'
          · obtain ⟨rfl, rfl⟩ := he
            obtain ⟨rb, ro, rA, -, r0, r1⟩ := S19.two_hh (H.out.th.below bn) hx
            rw [rA] at p6
            obtain ⟨sb, so, sA, -, s0, s1⟩ := S19.two_hh (H'.out.th.below bn) hy
            rw [sA] at q6
            have E := fun W => neq_th_same z u W
            have N := Lib.hid (eq_more hall.out hx hy (decide_eq_true rfl))
            clear hx hy hall bn hk hlt rA sA
            go_wp2_with fail
            go_quiet (fail)
            have hq := drew_on HN nq
            generalize wr.drewN nq = w9 at hq ⊢
            clear HN
            go_wp2_with fail
            go_roundw
            case rel => exact ⟨k + 1, by go_num, by omega, N, hq⟩
            case measure => simp [intOf]; omega
          · obtain ⟨rb, ro, rA, -, r0, r1⟩ := S19.two_hh (H.out.th.below bn) hx
            rw [rA] at p6
            obtain ⟨sb, so, sA, -, s0, s1⟩ := S19.two_hh (H'.out.th.below bn) hy
            rw [sA] at q6
            have E := fun W => neq_th_no z z' u u' (he) W
            have R : Hid (V = false) := Lib.hid (by rw [← HV.out]; exact tl_th (eq_diff hx hy (decide_eq_false (fun g => he (by cases g; exact ⟨rfl, rfl⟩)))))
            clear hx hy hall bn hk hlt he rA sA
            go_wp2_with fail
            go_quiet (fail)
            have hq := drew_on HN nq
            generalize wr.drewN nq = w9 at hq ⊢
            go_wp2_with fail
            go_ret
            exact ⟨ret_bool R.out.symm, B7.out.trans ((drew_below hq.out).mono B7.out.size)⟩
        · have dk : decide (k < T.th.length) = false := by rw [decide_eq_false_iff_not]; exact hlt
          have Eth := Lib.hid (eq_end Lth.out (fun j x y hj => hall.out j x y (by omega)))
          clear hall hlt hk
          have p7 := (bn.cell (p := ⟨w.heap.size, 7, none⟩) LA.out).trans P7.out
          clear bn
          go_wp2_with fail
          go_loopw [7] (fun i wr => ∃ k : Nat, i = .int .i64 k ∧ k ≤ T.gu.length ∧ Hid (∀ (j : Nat) x y, j < k → T.gu[j]? = some x → U.gu[j]? = some y → eGu x y = true) ∧ Hid (∃ n, wr = w7.drewN n)) (fun i _ => T.gu.length - (intOf i).toNat)
          case atStart => exact ⟨0, rfl, Nat.zero_le _, Lib.hid (fun j x y h => absurd h (Nat.not_lt_zero _)), HN⟩
          case round =>
            clear HN
            obtain ⟨k, rfl, hk, hall, HN⟩ := hrel
            have bn := drew_below HN.out
            have p7 := (bn.cell (p := ⟨w.heap.size, 7, none⟩) LA.out).trans P7.out
            have q7 := (bn.cell (p := ⟨w.heap.size + 1, 7, none⟩) LB.out).trans Q7.out
            by_cases hlt : k < T.gu.length
            · obtain ⟨⟨z, u, v⟩, hx⟩ := at_lt hlt
              obtain ⟨⟨z', u', v'⟩, hy⟩ := at_lt (show k < U.gu.length by have := Lgu.out; omega)
              have gk : (k : Int) < (T.gu.length : Int) := by omega
              have gk' : (k : Int) < (U.gu.length : Int) := by have := Lgu.out; omega
              by_cases he : z = z' ∧ u = u' ∧ v = v'
              · obtain ⟨rfl, rfl, rfl⟩ := he
                obtain ⟨rb, ro, rA, -, r0, r1, r2⟩ := S19.three_gg (H.out.gu.below bn) hx
                rw [rA] at p7
                obtain ⟨sb, so, sA, -, s0, s1, s2⟩ := S19.three_gg (H'.out.gu.below bn) hy
                rw [sA] at q7
                have E := fun W => neq_gu_same z u v W
                have N := Lib.hid (eq_more hall.out hx hy (decide_eq_true rfl))
                clear hx hy hall bn hk hlt rA sA
                go_wp2_with fail
                go_quiet (fail)
                have hq := drew_on HN nq
                generalize wr.drewN nq = w9 at hq ⊢
                clear HN
                go_wp2_with fail
                go_roundw
                case rel => exact ⟨k + 1, by go_num, by omega, N, hq⟩
                case measure => simp [intOf]; omega
              · obtain ⟨rb, ro, rA, -, r0, r1, r2⟩ := S19.three_gg (H.out.gu.below bn) hx
                rw [rA] at p7
                obtain ⟨sb, so, sA, -, s0, s1, s2⟩ := S19.three_gg (H'.out.gu.below bn) hy
                rw [sA] at q7
                have E := fun W => neq_gu_no z z' u u' v v' (he) W
                have R : Hid (V = false) := Lib.hid (by rw [← HV.out]; exact tl_gu (eq_diff hx hy (decide_eq_false (fun g => he (by cases g; exact ⟨rfl, rfl, rfl⟩)))))
                clear hx hy hall bn hk hlt he rA sA
                go_wp2_with fail
                go_quiet (fail)
                have hq := drew_on HN nq
                generalize wr.drewN nq = w9 at hq ⊢
                go_wp2_with fail
                go_ret
                exact ⟨ret_bool R.out.symm, B7.out.trans ((drew_below hq.out).mono B7.out.size)⟩
            · have dk : decide (k < T.gu.length) = false := by rw [decide_eq_false_iff_not]; exact hlt
              have Egu := Lib.hid (eq_end Lgu.out (fun j x y hj => hall.out j x y (by omega)))
              clear hall hlt hk
              have p8 := (bn.cell (p := ⟨w.heap.size, 8, none⟩) LA.out).trans P8.out
              clear bn
              go_wp2_with fail
              go_loopw [8] (fun i wr => ∃ k : Nat, i = .int .i64 k ∧ k ≤ T.pa.length ∧ Hid (∀ (j : Nat) x y, j < k → T.pa[j]? = some x → U.pa[j]? = some y → ePa x y = true) ∧ Hid (∃ n, wr = w7.drewN n)) (fun i _ => T.pa.length - (intOf i).toNat)
              case atStart => exact ⟨0, rfl, Nat.zero_le _, Lib.hid (fun j x y h => absurd h (Nat.not_lt_zero _)), HN⟩
              case round =>
                clear HN
                obtain ⟨k, rfl, hk, hall, HN⟩ := hrel
                have bn := drew_below HN.out
                have p8 := (bn.cell (p := ⟨w.heap.size, 8, none⟩) LA.out).trans P8.out
                have q8 := (bn.cell (p := ⟨w.heap.size + 1, 8, none⟩) LB.out).trans Q8.out
                by_cases hlt : k < T.pa.length
                · obtain ⟨⟨z, u, v, f⟩, hx⟩ := at_lt hlt
                  obtain ⟨⟨z', u', v', f'⟩, hy⟩ := at_lt (show k < U.pa.length by have := Lpa.out; omega)
                  have gk : (k : Int) < (T.pa.length : Int) := by omega
                  have gk' : (k : Int) < (U.pa.length : Int) := by have := Lpa.out; omega
                  by_cases he : z = z' ∧ u = u' ∧ v = v' ∧ f = f'
                  · obtain ⟨rfl, rfl, rfl, rfl⟩ := he
                    obtain ⟨rb, ro, rA, -, r0, r1, r2, r3⟩ := S20.four_at (H.out.pa.below bn) hx
                    rw [rA] at p8
                    obtain ⟨sb, so, sA, -, s0, s1, s2, s3⟩ := S20.four_at (H'.out.pa.below bn) hy
                    rw [sA] at q8
                    have E := fun W => neq_pa_same z u v f W
                    have N := Lib.hid (eq_more hall.out hx hy (decide_eq_true rfl))
                    clear hx hy hall bn hk hlt rA sA
                    go_wp2_with fail
                    go_quiet (fail)
                    have hq := drew_on HN nq
                    generalize wr.drewN nq = w9 at hq ⊢
                    clear HN
                    go_wp2_with fail
                    go_roundw
                    case rel => exact ⟨k + 1, by go_num, by omega, N, hq⟩
                    case measure => simp [intOf]; omega
                  · obtain ⟨rb, ro, rA, -, r0, r1, r2, r3⟩ := S20.four_at (H.out.pa.below bn) hx
                    rw [rA] at p8
                    obtain ⟨sb, so, sA, -, s0, s1, s2, s3⟩ := S20.four_at (H'.out.pa.below bn) hy
                    rw [sA] at q8
                    have E := fun W => neq_pa_no z z' u u' v v' f f' (he) W
                    have R : Hid (V = false) := Lib.hid (by rw [← HV.out]; exact tl_pa (eq_diff hx hy (decide_eq_false (fun g => he (by cases g; exact ⟨rfl, rfl, rfl, rfl⟩)))))
                    clear hx hy hall bn hk hlt he rA sA
                    go_wp2_with fail
                    go_quiet (fail)
                    have hq := drew_on HN nq
                    generalize wr.drewN nq = w9 at hq ⊢
                    go_wp2_with fail
                    go_ret
                    exact ⟨ret_bool R.out.symm, B7.out.trans ((drew_below hq.out).mono B7.out.size)⟩
                · have dk : decide (k < T.pa.length) = false := by rw [decide_eq_false_iff_not]; exact hlt
                  have Epa := Lib.hid (eq_end Lpa.out (fun j x y hj => hall.out j x y (by omega)))
                  clear hall hlt hk
                  have p9 := (bn.cell (p := ⟨w.heap.size, 9, none⟩) LA.out).trans P9.out
                  clear bn
                  go_wp2_with fail
                  go_loopw [9] (fun i wr => ∃ k : Nat, i = .int .i64 k ∧ k ≤ T.pr.length ∧ Hid (∀ (j : Nat) x y, j < k → T.pr[j]? = some x → U.pr[j]? = some y → ePr x y = true) ∧ Hid (∃ n, wr = w7.drewN n)) (fun i _ => T.pr.length - (intOf i).toNat)
                  case atStart => exact ⟨0, rfl, Nat.zero_le _, Lib.hid (fun j x y h => absurd h (Nat.not_lt_zero _)), HN⟩
                  case round =>
                    clear HN
                    obtain ⟨k, rfl, hk, hall, HN⟩ := hrel
                    have bn := drew_below HN.out
                    have p9 := (bn.cell (p := ⟨w.heap.size, 9, none⟩) LA.out).trans P9.out
                    have q9 := (bn.cell (p := ⟨w.heap.size + 1, 9, none⟩) LB.out).trans Q9.out
                    by_cases hlt : k < T.pr.length
                    · obtain ⟨⟨id, z, u, v, t, m⟩, hx⟩ := at_lt hlt
                      obtain ⟨⟨id', z', u', v', t', m'⟩, hy⟩ := at_lt (show k < U.pr.length by have := Lpr.out; omega)
                      have gk : (k : Int) < (T.pr.length : Int) := by omega
                      have gk' : (k : Int) < (U.pr.length : Int) := by have := Lpr.out; omega
                      by_cases he : id = id' ∧ z = z' ∧ u = u' ∧ v = v' ∧ t = t' ∧ m = m'
                      · obtain ⟨rfl, rfl, rfl, rfl, rfl, rfl⟩ := he
                        obtain ⟨nm, hnm⟩ : ∃ nm, str id = nm := ⟨_, rfl⟩
                        obtain ⟨rb, ro, rA, -, r0, r1, r2, r3, r4, r5⟩ := S21.six_at (H.out.pr.below bn) hx hnm
                        rw [rA] at p9
                        obtain ⟨sb, so, sA, -, s0, s1, s2, s3, s4, s5⟩ := S21.six_at (H'.out.pr.below bn) hy hnm
                        rw [sA] at q9
                        have E := fun W => neq_pr_same nm z u v t m W
                        have N := Lib.hid (eq_more hall.out hx hy (decide_eq_true rfl))
                        clear hx hy hall bn hk hlt hnm rA sA
                        go_wp2_with fail
                        go_quiet (fail)
                        have hq := drew_on HN nq
                        generalize wr.drewN nq = w9 at hq ⊢
                        clear HN
                        go_wp2_with fail
                        go_roundw
                        case rel => exact ⟨k + 1, by go_num, by omega, N, hq⟩
                        case measure => simp [intOf]; omega
                      · obtain ⟨nm, hnm⟩ : ∃ nm, str id = nm := ⟨_, rfl⟩
                        obtain ⟨nm', hnm'⟩ : ∃ nm, str id' = nm := ⟨_, rfl⟩
                        obtain ⟨rb, ro, rA, -, r0, r1, r2, r3, r4, r5⟩ := S21.six_at (H.out.pr.below bn) hx hnm
                        rw [rA] at p9
                        obtain ⟨sb, so, sA, -, s0, s1, s2, s3, s4, s5⟩ := S21.six_at (H'.out.pr.below bn) hy hnm'
                        rw [sA] at q9
                        have E := fun W => neq_pr_no nm nm' z z' u u' v v' t t' m m' (fun g => he ⟨str_inj (by rw [hnm, hnm']; exact g.1), g.2⟩) W
                        have R : Hid (V = false) := Lib.hid (by rw [← HV.out]; exact tl_pr (eq_diff hx hy (decide_eq_false (fun g => he (by cases g; exact ⟨rfl, rfl, rfl, rfl, rfl, rfl⟩)))))
                        clear hx hy hall bn hk hlt he hnm hnm' rA sA
                        go_wp2_with fail
                        go_quiet (fail)
                        have hq := drew_on HN nq
                        generalize wr.drewN nq = w9 at hq ⊢
                        go_wp2_with fail
                        go_ret
                        exact ⟨ret_bool R.out.symm, B7.out.trans ((drew_below hq.out).mono B7.out.size)⟩
                    · have dk : decide (k < T.pr.length) = false := by rw [decide_eq_false_iff_not]; exact hlt
                      have Epr := Lib.hid (eq_end Lpr.out (fun j x y hj => hall.out j x y (by omega)))
                      clear hall hlt hk
                      have R : Hid (V = true) := Lib.hid (by rw [← HV.out]; unfold tlT; rw [Efr.out, Eth.out, Egu.out, Epa.out, Epr.out]; rfl)
                      go_wp2_with fail
                      go_ret
                      exact ⟨ret_bool R.out.symm, B7.out.trans ((drew_below HN.out).mono B7.out.size)⟩
end Go.Proofs.YtkhalnjgbdpfhaaGreat
