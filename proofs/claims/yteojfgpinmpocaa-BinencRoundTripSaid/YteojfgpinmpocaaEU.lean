/-
  Numbers read: byteAt and Uint of package binenc, and the reference's Uint: what each call answers; nothing has changed. Condition: the slice's length is an int.
-/
import Derived.Test.YteojfgpinmpocaaVar
import Derived.Test.YteojfgpinmpocaaLstB
import Derived.Laws.BitsAllLaws
namespace Go.Proofs.Yteojfgpinmpocaa
open Go.RowKit

theorem byte_range (v : Value) (l : List UInt8) (a : Int) (w : World) (h : LstB w v l) (ha : a < 0 ∨ (l.length : Int) < a) : Calls Try.prog 38 #[v, .int .i64 a] w fun e w' => e = .returned (.tuple #[.int .u8 0, .int .i64 2]) ∧ w = w' := by
  obtain ⟨A, c, rfl, -⟩ := h
  by_cases h0 : a < 0
  · clear ha
    go_enter Try.func38, Try.ntmps38
    go_wp2_with fail
    go_ret2
    exact ⟨rfl, rfl⟩
  · have g : decide (a < 0) = false := decide_eq_false h0
    have g2 : (l.length : Int) < a := ha.resolve_left h0
    clear ha h0
    go_enter Try.func38, Try.ntmps38
    go_wp2_with fail
    go_ret2
    exact ⟨rfl, rfl⟩
theorem byte_end (v : Value) (l : List UInt8) (w : World) (h : LstB w v l) : Calls Try.prog 38 #[v, .int .i64 (l.length : Int)] w fun e w' => e = .returned (.tuple #[.int .u8 0, .int .i64 4]) ∧ w = w' := by
  obtain ⟨A, c, rfl, -⟩ := h
  have g : decide ((l.length : Int) < 0) = false := decide_eq_false (by omega)
  have g2 : decide ((l.length : Int) < (l.length : Int)) = false := decide_eq_false (by omega)
  have g3 : decide (l.length < l.length) = false := decide_eq_false (by omega)
  have g4 : ((l.length : Int) == (l.length : Int)) = true := beq_true rfl
  go_enter Try.func38, Try.ntmps38
  go_wp2_with fail
  go_ret2
  exact ⟨rfl, rfl⟩
theorem byte_in (v : Value) (l : List UInt8) (p : Nat) (x : UInt8) (hx : l[p]? = some x) (w : World) (h : LstB w v l) : Calls Try.prog 38 #[v, .int .i64 (p : Int)] w fun e w' => e = .returned (.tuple #[.int .u8 (x.toNat : Int), .int .i64 0]) ∧ w = w' := by
  obtain ⟨A, c, rfl, hc, -, hcell⟩ := h
  have hp := (List.getElem?_eq_some_iff.1 hx).1
  obtain ⟨b, o, rfl, hb, hcc⟩ := hcell (by omega)
  have m := hcc p _ (bts_at l p x hx)
  have g : decide ((p : Int) < 0) = false := decide_eq_false (by omega)
  have g2 : decide ((l.length : Int) < (p : Int)) = false := decide_eq_false (by omega)
  have g3 : decide (l.length < p) = false := decide_eq_false (by omega)
  have g4 : ((p : Int) == (l.length : Int)) = false := beq_false (by omega)
  have g5 : (p : Int) < (l.length : Int) := by omega
  clear hcell hcc hx hb
  go_enter Try.func38, Try.ntmps38
  go_wp2_with fail
  go_ret2
  exact ⟨rfl, rfl⟩

theorem ret_three {k : IntKind} {a b c x y z : Int} (h1 : a = x) (h2 : b = y) (h3 : c = z) : Ending.returned (.tuple #[.int k a, .int .i64 b, .int .i64 c]) = Ending.returned (.tuple #[.int k x, .int .i64 y, .int .i64 z]) := by rw [h1, h2, h3]
theorem rU_ret {l : List UInt8} {a : Int} {r : Nat × Int × Int} (h : rU l a = r) : Ending.returned (.tuple #[.int .u64 (r.1 : Int), .int .i64 r.2.1, .int .i64 r.2.2]) = Ending.returned (.tuple #[.int .u64 ((rU l a).1 : Int), .int .i64 (rU l a).2.1, .int .i64 (rU l a).2.2]) := by rw [h]
/-- A group put in its place. -/
theorem or_step (s a y : Nat) (ha : a < 2 ^ s) (hm : a + 2 ^ s * (y % 128) < 18446744073709551616) : bits .or .u64 (a : Int) ((y : Int) % 128 * ((2 ^ s : Nat) : Int)) = ((a + 2 ^ s * (y % 128) : Nat) : Int) := by
  have e : (y : Int) % 128 * ((2 ^ s : Nat) : Int) = ((2 ^ s * (y % 128) : Nat) : Int) := by rw [Int.mul_comm, Int.natCast_mul]; rfl
  rw [e, u64_or_nat _ _ (by omega) (by omega), Nat.or_comm, nat_join s _ _ (Nat.mul_mod_right _ _) ha, Nat.add_comm]
theorem or_last (a y : Nat) (ha : a < 2 ^ 63) (hy : y ≤ 1) : bits .or .u64 (a : Int) (IntKind.u64.wrap ((y : Int) % 128 * 9223372036854775808)) = ((a + 2 ^ 63 * y : Nat) : Int) := by
  have h := or_step 63 a y ha (by rw [Nat.mod_eq_of_lt (by omega)]; omega)
  rw [Nat.mod_eq_of_lt (show y < 128 by omega)] at h
  rw [← h, IntKind.wrap_u64, Int.emod_eq_of_lt (by omega) (by omega)]
  rfl
theorem pow_le {i : Nat} (h : i ≤ 9) : 2 ^ (7 * i) ≤ 9223372036854775808 := Nat.pow_le_pow_right (n := 2) (by decide) (show 7 * i ≤ 63 by omega)
theorem pow_next (i : Nat) : 2 ^ (7 * (i + 1)) = 2 ^ (7 * i) * 128 := by rw [Nat.mul_succ, Nat.pow_add]
theorem sum_lt {i a m : Nat} (ha : a < 2 ^ (7 * i)) (h : (i ≤ 8 ∧ m < 128) ∨ (i ≤ 9 ∧ m ≤ 1)) : a + 2 ^ (7 * i) * m < 18446744073709551616 := by
  have h9 := pow_le (i := i) (by omega)
  have h1 : 2 ^ (7 * i) * m + 2 ^ (7 * i) = 2 ^ (7 * i) * (m + 1) := (Nat.mul_succ _ _).symm
  rcases h with ⟨hi, hm⟩ | ⟨hi, hm⟩
  · have h8 : 2 ^ (7 * (i + 1)) ≤ 9223372036854775808 := pow_le (by omega)
    rw [pow_next] at h8
    have := Nat.mul_le_mul_left (2 ^ (7 * i)) (show m + 1 ≤ 128 by omega)
    omega
  · have := Nat.mul_le_mul_left (2 ^ (7 * i)) (show m + 1 ≤ 2 by omega)
    omega
theorem acc_lt {i a m : Nat} (ha : a < 2 ^ (7 * i)) (hm : m < 128) : a + 2 ^ (7 * i) * m < 2 ^ (7 * (i + 1)) := by
  rw [pow_next]
  have h1 : 2 ^ (7 * i) * m + 2 ^ (7 * i) = 2 ^ (7 * i) * (m + 1) := (Nat.mul_succ _ _).symm
  have := Nat.mul_le_mul_left (2 ^ (7 * i)) (show m + 1 ≤ 128 by omega)
  omega
theorem ret_R {R : Nat × Int × Int} {n q e : Int} (h : (R.1 : Int) = n ∧ R.2.1 = q ∧ R.2.2 = e) : Ending.returned (.tuple #[.int .u64 n, .int .i64 q, .int .i64 e]) = Ending.returned (.tuple #[.int .u64 (R.1 : Int), .int .i64 R.2.1, .int .i64 R.2.2]) := by rw [h.1, h.2.1, h.2.2]
theorem fin_bad {i s a q : Nat} {x : UInt8} {r : List UInt8} {R : Nat × Int × Int} (hs : s = 7 * i) (hr : finF a (2 ^ s) q (decF (9 - i) (decide (s = 0)) (x :: r)) = R) (h : (s = 63 ∧ 1 < x.toNat) ∨ (0 < s ∧ x.toNat = 0)) :
    (R.1 : Int) = 0 ∧ R.2.1 = 0 ∧ R.2.2 = 3 := by
  rw [decF_syntax (by rcases h with ⟨h1, h2⟩ | ⟨h1, h2⟩; · exact Or.inl ⟨by omega, h2⟩
                      · exact Or.inr ⟨h2, decide_eq_false (by omega)⟩)] at hr
  rw [← hr]
  exact ⟨rfl, rfl, rfl⟩
theorem fin_last {i s a q : Nat} {x : UInt8} {r : List UInt8} {R : Nat × Int × Int} (hi : i ≤ 9) (hs : s = 7 * i) (hr : finF a (2 ^ s) q (decF (9 - i) (decide (s = 0)) (x :: r)) = R) (h1 : ¬ (s = 63 ∧ 1 < x.toNat)) (h2 : ¬ (0 < s ∧ x.toNat = 0)) (h3 : x.toNat < 128) :
    (R.1 : Int) = ((a + 2 ^ s * x.toNat : Nat) : Int) ∧ R.2.1 = ((q + 1 : Nat) : Int) ∧ R.2.2 = 0 := by
  rw [decF_last (by omega) (by rw [decide_eq_false_iff_not]; omega) h3] at hr
  rw [← hr]
  exact ⟨rfl, rfl, rfl⟩
theorem fin_more {i s a q : Nat} {x : UInt8} {r : List UInt8} {R : Nat × Int × Int} (hi : i ≤ 9) (hs : s = 7 * i) (hr : finF a (2 ^ s) q (decF (9 - i) (decide (s = 0)) (x :: r)) = R) (h1 : ¬ (s = 63 ∧ 1 < x.toNat)) (h3 : 128 ≤ x.toNat) :
    i ≤ 8 ∧ finF (a + 2 ^ s * (x.toNat % 128)) (2 ^ (s + 7)) (q + 1) (decF (9 - (i + 1)) (decide (s + 7 = 0)) r) = R := by
  have hi8 : i ≤ 8 := by omega
  refine ⟨hi8, ?_⟩
  rw [show 9 - i = 9 - (i + 1) + 1 by omega, finF_more _ _ _ h3] at hr
  rw [← hr, show decide (s + 7 = 0) = false from decide_eq_false (by omega), Nat.pow_add]
set_option maxHeartbeats 1000000 in
theorem uint_any (v : Value) (l : List UInt8) (hl : l.length ≤ 9223372036854775807) (a : Int) (w : World) (h : LstB w v l) : Calls Try.prog 24 #[v, .int .i64 a] w fun e w' => e = .returned (.tuple #[.int .u64 ((rU l a).1 : Int), .int .i64 ((rU l a).2.1), .int .i64 ((rU l a).2.2)]) ∧ w = w' := by
  by_cases ha : a < 0 ∨ (l.length : Int) < a
  · rw [rU_range ha]
    have M := Lib.hid (byte_range v l a w h ha)
    obtain ⟨A, c, rfl, -⟩ := h
    clear ha
    go_enter Try.func24, Try.ntmps24
    go_wp2_with fail
    go_step3
    go_wp2_with fail
    go_step3
    go_wp2_with fail
    go_loop [7, 8, 9] (fun n q s => n = .int .u64 0 ∧ q = .int .i64 a ∧ s = .int .i64 0) (fun _ _ _ => 0)
    case atStart => exact ⟨rfl, rfl, rfl⟩
    case round =>
      obtain ⟨rfl, rfl, rfl⟩ := hrel
      go_wp2_with fail
      refine M.out.mono ?_
      rintro e w' ⟨rfl, rfl⟩
      go_wp2_with fail
      rw [Exit.noGoto_ret]
      go_ret3
      exact ⟨rfl, rfl⟩
  · obtain ⟨p, rfl⟩ : ∃ p : Nat, a = p := ⟨a.toNat, by omega⟩
    have hp : p ≤ l.length := by omega
    obtain ⟨R, hR⟩ : ∃ R, rU l p = R := ⟨_, rfl⟩
    rw [hR]
    rw [finF_start l p hp] at hR
    have HR := Lib.hid hR
    have H := Lib.hid h
    have HL := Lib.hid hl
    obtain ⟨A, c, rfl, -⟩ := h
    clear ha hR
    go_enter Try.func24, Try.ntmps24
    go_wp2_with fail
    go_step3
    go_wp2_with fail
    go_step3
    go_wp2_with fail
    go_loop [7, 8, 9] (fun nv qv sv => ∃ i a q s : Nat, nv = .int .u64 (a : Int) ∧ qv = .int .i64 (q : Int) ∧ sv = .int .i64 (s : Int) ∧ Hid (q ≤ l.length ∧ i ≤ 9 ∧ s = 7 * i ∧ a < 2 ^ s ∧ finF a (2 ^ s) q (decF (9 - i) (decide (s = 0)) (l.drop q)) = R)) (fun _ qv _ => l.length - (intOf qv).toNat)
    case atStart => exact ⟨0, 0, p, 0, rfl, rfl, rfl, hp, by omega, rfl, by decide, HR.out⟩
    case round =>
      obtain ⟨i, a, q, s, rfl, rfl, rfl, hx⟩ := hrel
      obtain ⟨hq, hi, hs, ha, hr⟩ := hx.out
      clear hx HR
      by_cases hlt : q < l.length
      · obtain ⟨x, hx⟩ := at_lt hlt
        have M := Lib.hid (byte_in _ l q x hx w H.out)
        rw [drop_at l q x hx] at hr
        have hy := UInt8.toNat_lt x
        by_cases hA : s = 63
        · subst hA
          obtain rfl : i = 9 := by omega
          by_cases h1 : 1 < x.toNat
          · have E := Lib.hid (fin_bad hs hr (Or.inl ⟨rfl, h1⟩))
            have t1 : (1 : Int) < (x.toNat : Int) := by omega
            generalize x.toNat = y at M t1 hy
            clear hr hlt ha hs hi hq hx h1
            go_wp2_with fail
            refine M.out.mono ?_
            rintro e w' ⟨rfl, rfl⟩
            go_wp2_with fail
            rw [Exit.noGoto_ret]
            go_ret3
            exact ⟨ret_R E.out, rfl⟩
          · have t1 : decide ((1 : Int) < (x.toNat : Int)) = false := decide_eq_false (by omega)
            by_cases h0 : x.toNat = 0
            · have E := Lib.hid (fin_bad hs hr (Or.inr ⟨by omega, h0⟩))
              have t2 : ((x.toNat : Int) == 0) = true := beq_true (by omega)
              generalize x.toNat = y at M t1 t2 hy
              clear hr hlt ha hs hi hq hx h1 h0
              go_wp2_with fail
              refine M.out.mono ?_
              rintro e w' ⟨rfl, rfl⟩
              go_wp2_with fail
              rw [Exit.noGoto_ret]
              go_ret3
              exact ⟨ret_R E.out, rfl⟩
            · have E := Lib.hid (fin_last hi hs hr (by omega) (by omega) (by omega))
              have t2 : ((x.toNat : Int) == 0) = false := beq_false (by omega)
              have t3 : (x.toNat : Int) < 128 := by omega
              have o := or_last a x.toNat ha (by omega)
              have hq1 : (q : Int) < 9223372036854775807 := by have := HL.out; omega
              generalize x.toNat = y at M t1 t2 t3 hy o E
              clear hr hlt ha hs hi hx h1 h0
              go_wp2_with fail
              refine M.out.mono ?_
              rintro e w' ⟨rfl, rfl⟩
              go_wp2_with fail
              rw [Exit.noGoto_ret]
              go_ret3
              exact ⟨ret_R E.out, rfl⟩
        · have hq1 : (q : Int) < 9223372036854775807 := by have := HL.out; omega
          have hs8 : s = 0 ∨ (s = 7 ∨ s = 14 ∨ s = 21 ∨ s = 28 ∨ s = 35 ∨ s = 42 ∨ s = 49 ∨ s = 56) := by omega
          by_cases h3 : x.toNat < 128
          · have t3 : (x.toNat : Int) < 128 := by omega
            rcases hs8 with rfl | hs8
            · obtain rfl : a = 0 := by simpa using ha
              have E := Lib.hid (fin_last hi hs hr (by omega) (by omega) h3)
              simp only [Nat.pow_zero, Nat.one_mul, Nat.zero_add] at E
              have o : bits .or .u64 0 ((x.toNat : Int) % 128) = (x.toNat : Int) := by
                have := u64_or_nat 0 x.toNat (by omega) (by omega)
                rw [Nat.zero_or] at this
                rw [Int.emod_eq_of_lt (by omega) t3]
                exact this
              generalize x.toNat = y at M t3 hy o E
              clear hr hA hlt ha hs hi hq hx h3
              go_wp2_with fail
              refine M.out.mono ?_
              rintro e w' ⟨rfl, rfl⟩
              go_wp2_with fail
              rw [Exit.noGoto_ret]
              go_ret3
              exact ⟨ret_R E.out, rfl⟩
            · by_cases h0 : x.toNat = 0
              · have E := Lib.hid (fin_bad hs hr (Or.inr ⟨by omega, h0⟩))
                have t2 : ((x.toNat : Int) == 0) = true := beq_true (by omega)
                generalize x.toNat = y at M t2 hy t3
                clear hr hlt ha hs hi hq hx h0 h3
                rcases hs8 with rfl | rfl | rfl | rfl | rfl | rfl | rfl | rfl
                all_goals
                  clear hA
                  go_wp2_with fail
                  refine M.out.mono ?_
                  rintro e w' ⟨rfl, rfl⟩
                  go_wp2_with fail
                  rw [Exit.noGoto_ret]
                  go_ret3
                  exact ⟨ret_R E.out, rfl⟩
              · have E := Lib.hid (fin_last hi hs hr (by omega) (by omega) h3)
                have t2 : ((x.toNat : Int) == 0) = false := beq_false (by omega)
                have o := or_step s a x.toNat ha (by rw [hs] at ha ⊢; exact sum_lt ha (Or.inl ⟨by omega, Nat.mod_lt _ (by decide)⟩))
                rw [Nat.mod_eq_of_lt h3] at o
                generalize a + 2 ^ s * x.toNat = a2 at o E
                generalize x.toNat = y at M t2 t3 hy o
                clear hr hlt ha hs hi hq hx h0 h3
                rcases hs8 with rfl | rfl | rfl | rfl | rfl | rfl | rfl | rfl
                all_goals
                  simp only [Nat.reducePow, Int.cast_ofNat_Int] at o
                  clear hA
                  go_wp2_with fail
                  refine M.out.mono ?_
                  rintro e w' ⟨rfl, rfl⟩
                  go_wp2_with fail
                  rw [Exit.noGoto_ret]
                  go_ret3
                  exact ⟨ret_R E.out, rfl⟩
          · obtain ⟨hi8, hr2⟩ := fin_more hi hs hr (by omega) (by omega)
            have o := or_step s a x.toNat ha (by rw [hs] at ha ⊢; exact sum_lt ha (Or.inl ⟨hi8, Nat.mod_lt _ (by decide)⟩))
            have ha2 : a + 2 ^ s * (x.toNat % 128) < 2 ^ (s + 7) := by
              rw [hs] at ha ⊢
              exact acc_lt ha (Nat.mod_lt _ (by decide))
            have t3 : decide ((x.toNat : Int) < 128) = false := by simp; omega
            rcases hs8 with rfl | hs8
            · obtain rfl : a = 0 := by simpa using ha
              rw [Nat.pow_zero, Nat.one_mul, Nat.zero_add] at ha2 hr2
              have o2 : bits .or .u64 0 ((x.toNat : Int) % 128) = ((x.toNat % 128 : Nat) : Int) := by
                have := u64_or_nat 0 (x.toNat % 128) (by omega) (by omega)
                rw [Nat.zero_or] at this
                exact this
              generalize x.toNat % 128 = a2 at o2 hr2 ha2
              have N : Hid (q + 1 ≤ l.length ∧ i + 1 ≤ 9 ∧ 7 = 7 * (i + 1) ∧ a2 < 2 ^ 7 ∧ finF a2 (2 ^ 7) (q + 1) (decF (9 - (i + 1)) (decide (7 = 0)) (l.drop (q + 1))) = R) := ⟨hlt, by omega, by omega, ha2, hr2⟩
              generalize x.toNat = y at M t3 hy o2
              clear hr hr2 ha2 hA ha hs hi hi8 hq hx h3 o
              go_wp2_with fail
              refine M.out.mono ?_
              rintro e w' ⟨rfl, rfl⟩
              go_wp2_with fail
              go_round
              case rel => exact ⟨i + 1, a2, q + 1, 7, by go_num, by go_num, by go_num, N⟩
              case measure => simp [intOf]; omega
            · have t2 : ((x.toNat : Int) == 0) = false := beq_false (by omega)
              generalize a + 2 ^ s * (x.toNat % 128) = a2 at o hr2 ha2
              have N : Hid (q + 1 ≤ l.length ∧ i + 1 ≤ 9 ∧ s + 7 = 7 * (i + 1) ∧ a2 < 2 ^ (s + 7) ∧ finF a2 (2 ^ (s + 7)) (q + 1) (decF (9 - (i + 1)) (decide (s + 7 = 0)) (l.drop (q + 1))) = R) := ⟨hlt, by omega, by omega, ha2, hr2⟩
              generalize x.toNat = y at M t2 t3 hy o
              clear hr hr2 ha2 ha hs hi hi8 hq hx h3
              rcases hs8 with rfl | rfl | rfl | rfl | rfl | rfl | rfl | rfl
              all_goals
                simp only [Nat.reducePow, Int.cast_ofNat_Int] at o
                clear hA
                go_wp2_with fail
                refine M.out.mono ?_
                rintro e w' ⟨rfl, rfl⟩
                go_wp2_with fail
                go_round
                case rel => exact ⟨i + 1, a2, q + 1, _, by go_num, by go_num, by go_num, N⟩
                case measure => simp [intOf]; omega
      · obtain rfl : q = l.length := by omega
        have M := Lib.hid (byte_end _ l w H.out)
        have E := Lib.hid (show (R.1 : Int) = 0 ∧ R.2.1 = 0 ∧ R.2.2 = 4 by rw [← hr, List.drop_eq_nil_of_le (Nat.le_refl _), decF_nil]; exact ⟨rfl, rfl, rfl⟩)
        clear hr hlt ha hs hi hq
        go_wp2_with fail
        refine M.out.mono ?_
        rintro e w' ⟨rfl, rfl⟩
        go_wp2_with fail
        rw [Exit.noGoto_ret]
        go_ret3
        exact ⟨ret_R E.out, rfl⟩
end Go.Proofs.Yteojfgpinmpocaa
