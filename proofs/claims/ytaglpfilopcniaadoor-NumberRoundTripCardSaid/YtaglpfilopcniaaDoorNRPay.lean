/-
  ParsePrice of package number's reference: what its call answers; nothing that existed before the call has changed behind it. Condition: a text of at most 4000 bytes.
-/
import Derived.Test.YtaglpfilopcniaaDoorNPay
namespace Go.Proofs.YtaglpfilopcniaaDoor
open Go.RowKit

theorem rpp_short (s : ByteArray) (h : (s.size : Int) < 4) (w : World) : Calls Tryd.prog 30 #[.string s] w fun e w' => e = .returned (.tuple #[.int .i64 0, .int .i64 3]) ∧ w = w' := by
  go_enter Tryd.func30, Tryd.ntmps30
  go_wp2_with fail
  go_ret2
  exact ⟨rfl, rfl⟩
theorem rpp_stop (s : ByteArray) (hs : s.size ≤ 4096) (h : (4 : Int) ≤ (s.size : Int)) (c : UInt8) (k : ∀ W, (Instr.index 9 (.string s) (.int .i64 ((s.size : Int) - 3))).run Tryd.prog W = .ok (.int .u8 c.toNat) W) (hc : ((c.toNat : Int) != 46) = true) (w : World) : Calls Tryd.prog 30 #[.string s] w fun e w' => e = .returned (.tuple #[.int .i64 0, .int .i64 3]) ∧ w = w' := by
  have d : decide ((s.size : Int) < 4) = false := lt_false h
  go_enter Tryd.func30, Tryd.ntmps30
  go_wp2_with fail
  go_ret2
  exact ⟨rfl, rfl⟩
theorem rpp_nat (s s1 : ByteArray) (hs : s.size ≤ 4096) (h : (4 : Int) ≤ (s.size : Int)) (c : UInt8) (k : ∀ W, (Instr.index 9 (.string s) (.int .i64 ((s.size : Int) - 3))).run Tryd.prog W = .ok (.int .u8 c.toNat) W) (hc : ((c.toNat : Int) != 46) = false)
    (k1 : ∀ W, (Instr.slice 9 (.string s) none (some (.int .i64 ((s.size : Int) - 3))) none).run Tryd.prog W = .ok (.string s1) W) (N : Hid (∀ w : World, Calls Tryd.prog 35 #[.string s1] w fun e w' => e = .returned (.bool false) ∧ w = w')) (w : World) : Calls Tryd.prog 30 #[.string s] w fun e w' => e = .returned (.tuple #[.int .i64 0, .int .i64 3]) ∧ w = w' := by
  have d : decide ((s.size : Int) < 4) = false := lt_false h
  go_enter Tryd.func30, Tryd.ntmps30
  go_wp2_with fail
  refine (N.out _).mono ?_
  rintro e w' ⟨rfl, rfl⟩
  go_wp2_with fail
  go_ret2
  exact ⟨rfl, rfl⟩
theorem rpp_digs (s s1 s2 : ByteArray) (hs : s.size ≤ 4096) (hs2 : s2.size ≤ 4096) (h : (4 : Int) ≤ (s.size : Int)) (c : UInt8) (k : ∀ W, (Instr.index 9 (.string s) (.int .i64 ((s.size : Int) - 3))).run Tryd.prog W = .ok (.int .u8 c.toNat) W) (hc : ((c.toNat : Int) != 46) = false)
    (k1 : ∀ W, (Instr.slice 9 (.string s) none (some (.int .i64 ((s.size : Int) - 3))) none).run Tryd.prog W = .ok (.string s1) W) (N : Hid (∀ w : World, Calls Tryd.prog 35 #[.string s1] w fun e w' => e = .returned (.bool true) ∧ w = w'))
    (k2 : ∀ W, (Instr.slice 9 (.string s) (some (.int .i64 ((s.size : Int) - 2))) none none).run Tryd.prog W = .ok (.string s2) W) (D : Hid (∀ w : World, Calls Tryd.prog 35 #[.string (⟨#[49]⟩ ++ s2)] w fun e w' => e = .returned (.bool false) ∧ w = w')) (w : World) : Calls Tryd.prog 30 #[.string s] w fun e w' => e = .returned (.tuple #[.int .i64 0, .int .i64 3]) ∧ w = w' := by
  have d : decide ((s.size : Int) < 4) = false := lt_false h
  go_enter Tryd.func30, Tryd.ntmps30
  go_wp2_with fail
  refine (N.out _).mono ?_
  rintro e w' ⟨rfl, rfl⟩
  go_wp2_with fail
  refine (D.out _).mono ?_
  rintro e w' ⟨rfl, rfl⟩
  go_wp2_with fail
  go_ret2
  exact ⟨rfl, rfl⟩
theorem rpp_far (s s1 s2 : ByteArray) (hs : s.size ≤ 4096) (hs2 : s2.size ≤ 4096) (h : (4 : Int) ≤ (s.size : Int)) (c : UInt8) (k : ∀ W, (Instr.index 9 (.string s) (.int .i64 ((s.size : Int) - 3))).run Tryd.prog W = .ok (.int .u8 c.toNat) W) (hc : ((c.toNat : Int) != 46) = false)
    (k1 : ∀ W, (Instr.slice 9 (.string s) none (some (.int .i64 ((s.size : Int) - 3))) none).run Tryd.prog W = .ok (.string s1) W) (N : Hid (∀ w : World, Calls Tryd.prog 35 #[.string s1] w fun e w' => e = .returned (.bool true) ∧ w = w'))
    (k2 : ∀ W, (Instr.slice 9 (.string s) (some (.int .i64 ((s.size : Int) - 2))) none none).run Tryd.prog W = .ok (.string s2) W) (D : Hid (∀ w : World, Calls Tryd.prog 35 #[.string (⟨#[49]⟩ ++ s2)] w fun e w' => e = .returned (.bool true) ∧ w = w'))
    (u : Int) (z : Bool) (v : Int) (hz : (v != 0) = z) (hu : z = false → 10000 < u) (P : Hid (∀ w : World, Calls Tryd.prog 14 #[.string s1] w fun e w' => e = .returned (.tuple #[.int .i64 u, .int .i64 v]) ∧ w = w')) (w : World) : Calls Tryd.prog 30 #[.string s] w fun e w' => e = .returned (.tuple #[.int .i64 0, .int .i64 2]) ∧ w = w' := by
  have d : decide ((s.size : Int) < 4) = false := lt_false h
  cases z
  all_goals
    first | (have hu1 := hu rfl; clear hu) | clear hu
    go_enter Tryd.func30, Tryd.ntmps30
    go_wp2_with fail
    refine (N.out _).mono ?_
    rintro e w' ⟨rfl, rfl⟩
    go_wp2_with fail
    refine (D.out _).mono ?_
    rintro e w' ⟨rfl, rfl⟩
    go_wp2_with fail
    refine (P.out _).mono ?_
    rintro e w' ⟨rfl, rfl⟩
    go_wp2_with fail
    go_ret2
    exact ⟨rfl, rfl⟩
theorem rpp_pay (s s1 s2 : ByteArray) (hs : s.size ≤ 4096) (hs2 : s2.size ≤ 4096) (h : (4 : Int) ≤ (s.size : Int)) (c : UInt8) (k : ∀ W, (Instr.index 9 (.string s) (.int .i64 ((s.size : Int) - 3))).run Tryd.prog W = .ok (.int .u8 c.toNat) W) (hc : ((c.toNat : Int) != 46) = false)
    (k1 : ∀ W, (Instr.slice 9 (.string s) none (some (.int .i64 ((s.size : Int) - 3))) none).run Tryd.prog W = .ok (.string s1) W) (N : Hid (∀ w : World, Calls Tryd.prog 35 #[.string s1] w fun e w' => e = .returned (.bool true) ∧ w = w'))
    (k2 : ∀ W, (Instr.slice 9 (.string s) (some (.int .i64 ((s.size : Int) - 2))) none none).run Tryd.prog W = .ok (.string s2) W) (D : Hid (∀ w : World, Calls Tryd.prog 35 #[.string (⟨#[49]⟩ ++ s2)] w fun e w' => e = .returned (.bool true) ∧ w = w'))
    (u : Int) (u0 : 0 ≤ u) (u1 : u ≤ 10000) (P : Hid (∀ w : World, Calls Tryd.prog 14 #[.string s1] w fun e w' => e = .returned (.tuple #[.int .i64 u, .int .i64 0]) ∧ w = w')) (a b : UInt8) (a0 : 48 ≤ a.toNat) (a1 : a.toNat ≤ 57) (b0 : 48 ≤ b.toNat) (b1 : b.toNat ≤ 57)
    (ka : ∀ W, (Instr.index 9 (.string s) (.int .i64 ((s.size : Int) - 2))).run Tryd.prog W = .ok (.int .u8 a.toNat) W) (kb : ∀ W, (Instr.index 9 (.string s) (.int .i64 ((s.size : Int) - 1))).run Tryd.prog W = .ok (.int .u8 b.toNat) W)
    (n q : Int) (hr : (if u * 100 + ((a.toNat : Int) - 48) * 10 + ((b.toNat : Int) - 48) ≤ 1000000 then (u * 100 + ((a.toNat : Int) - 48) * 10 + ((b.toNat : Int) - 48), (0 : Int)) else (0, 2)) = (n, q)) (w : World) : Calls Tryd.prog 30 #[.string s] w fun e w' => e = .returned (.tuple #[.int .i64 n, .int .i64 q]) ∧ Below w.heap.size w w' := by
  have d : decide ((s.size : Int) < 4) = false := lt_false h
  have d1 : decide ((10000 : Int) < u) = false := lt_false u1
  by_cases hp : u * 100 + ((a.toNat : Int) - 48) * 10 + ((b.toNat : Int) - 48) ≤ 1000000
  all_goals
    first | (rw [if_pos hp] at hr; have hq : decide ((1000000 : Int) < u * 100 + ((a.toNat : Int) - 48) * 10 + ((b.toNat : Int) - 48)) = false := lt_false hp) | (rw [if_neg hp] at hr; have hq : 1000000 < u * 100 + ((a.toNat : Int) - 48) * 10 + ((b.toNat : Int) - 48) := Int.not_le.1 hp)
    obtain ⟨rfl, rfl⟩ := Prod.mk.inj hr
    clear hr hp
    go_enter Tryd.func30, Tryd.ntmps30
    go_wp2_with fail
    refine (N.out _).mono ?_
    rintro e w' ⟨rfl, rfl⟩
    go_wp2_with fail
    refine (D.out _).mono ?_
    rintro e w' ⟨rfl, rfl⟩
    go_wp2_with fail
    refine (P.out _).mono ?_
    rintro e w' ⟨rfl, rfl⟩
    go_wp2_with fail
    go_quiet (fail)
    go_wp2_with fail
    go_ret2
    exact ⟨rfl, below_drewN (Below.refl _ _) _⟩
theorem rpprice_any (l : List UInt8) (hs : l.length ≤ 4000) (w : World) : Calls Tryd.prog 30 #[.string (str l)] w fun e w' => e = .returned (.tuple #[.int .i64 ((priceR l).1), .int .i64 ((priceR l).2)]) ∧ Below w.heap.size w w' := by
  have hz := size_str l
  have he := priced_end l
  have bad : priced l = false → priceR l = (0, 3) := fun h => by unfold priceR; rw [if_neg (by simp [h])]
  by_cases h4 : 4 ≤ l.length
  · obtain ⟨c, hc⟩ : ∃ c, l[l.length - 3]? = some c := ⟨_, List.getElem?_eq_getElem (by omega)⟩
    obtain ⟨a, ha⟩ : ∃ a, l[l.length - 2]? = some a := ⟨_, List.getElem?_eq_getElem (by omega)⟩
    obtain ⟨b, hb⟩ : ∃ b, l[l.length - 1]? = some b := ⟨_, List.getElem?_eq_getElem (by omega)⟩
    have kc := fun W => idx_run l (l.length - 3) c hc (((str l).size : Int) - 3) (by omega) W
    have ka := fun W => idx_run l (l.length - 2) a ha (((str l).size : Int) - 2) (by omega) W
    have kb := fun W => idx_run l (l.length - 1) b hb (((str l).size : Int) - 1) (by omega) W
    have k1 := fun W => slh_run l (l.length - 3) (by omega) _ rfl (((str l).size : Int) - 3) (by omega) W
    have k2 := fun W => sll_run l (l.length - 2) (by omega) _ rfl (((str l).size : Int) - 2) (by omega) W
    have N := Lib.hid (fun w => rdigits_any (l.take (l.length - 3)) (by simp; omega) w)
    have D := Lib.hid (fun w => rdigits_any (49 :: l.drop (l.length - 2)) (by simp; omega) w)
    rw [show str (49 :: l.drop (l.length - 2)) = ⟨#[49]⟩ ++ str (l.drop (l.length - 2)) from (str_app [49] (l.drop (l.length - 2))).symm] at D
    have P := Lib.hid (fun w => rparse_any (l.take (l.length - 3)) (by simp; omega) w)
    have hz2 : (str (l.drop (l.length - 2))).size ≤ 4096 := by rw [size_str]; simp; omega
    by_cases hs : c = 46
    · have q : ((c.toNat : Int) != 46) = false := by rw [hs]; rfl
      cases hn : nat (l.take (l.length - 3)) with
      | false =>
        rw [hn] at N he
        rw [bad (by rw [he]; simp)]
        exact still (rpp_nat _ _ (by omega) (by omega) c kc q k1 N w)
      | true =>
        rw [hn] at N he
        cases hd : nat (49 :: l.drop (l.length - 2)) with
        | false =>
          rw [hd] at D he
          rw [bad (by rw [he]; simp)]
          exact still (rpp_digs _ _ _ (by omega) hz2 (by omega) c kc q k1 N k2 D w)
        | true =>
          rw [hd] at D he
          have hp : priced l = true := by rw [he, hc, hs]; simp; omega
          obtain ⟨x, y, hxy, dx, dy, hbef, hx, hy⟩ := priced_ends hp
          rw [ha] at hx
          rw [hb] at hy
          obtain rfl := Option.some.inj hx
          obtain rfl := Option.some.inj hy
          rw [hbef] at hn P N
          rw [hbef] at k1
          have e := price_eq l hp a b hxy dx dy
          rw [nat_num hn] at P
          have d1 := (dig_iff a).1 dx
          have d2 := (dig_iff b).1 dy
          by_cases hv : valN (bef l) ≤ 10000
          · rw [if_pos (by omega)] at P
            exact rpp_pay _ _ _ (by omega) hz2 (by omega) c kc q k1 N k2 D (valN (bef l) : Int) (by omega) (by omega) P a b d1.1 d1.2 d2.1 d2.2 ka kb _ _ e w
          · have hw : ¬ worth l ≤ 1000000 := by unfold worth; omega
            have e2 : priceR l = (0, 2) := by unfold priceR; rw [if_pos hp, if_neg hw]
            rw [e2]
            by_cases hv2 : valN (bef l) ≤ 9223372036854775807
            · rw [if_pos hv2] at P
              exact still (rpp_far _ _ _ (by omega) hz2 (by omega) c kc q k1 N k2 D (valN (bef l) : Int) false 0 rfl (fun _ => by omega) P w)
            · rw [if_neg hv2] at P
              exact still (rpp_far _ _ _ (by omega) hz2 (by omega) c kc q k1 N k2 D 0 true 2 rfl (fun h => by cases h) P w)
    · have q : ((c.toNat : Int) != 46) = true := bne_true (fun h => hs (UInt8.toNat_inj.1 (by have e46 : (46 : UInt8).toNat = 46 := rfl; omega)))
      rw [bad (by rw [he, hc]; simp [hs])]
      exact still (rpp_stop _ (by omega) (by omega) c kc q w)
  · rw [bad (by rw [he]; simp [h4])]
    exact still (rpp_short _ (by omega) w)
end Go.Proofs.YtaglpfilopcniaaDoor
