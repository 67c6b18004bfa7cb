/-
  The reference of the sets of small ints: Power, Has, With, Without, Of, Range, Union, Intersect, Minus, List, Min: what each call answers; Of, of package bitset. Condition: words below 2^64, lists of fewer than 2^40 ints.
-/
import Derived.Test.YtkpmmojfnhfflaaBCnt
namespace Go.Proofs.Ytkpmmojfnhfflaa
open Go.RowKit

/-! ### Plain words, an element at a time -/
theorem mod_bit (t k j : Nat) : (t % 2 ^ k).testBit j = (decide (j < k) && t.testBit j) := Nat.testBit_mod_two_pow t k j
theorem one_at {k : Nat} (h : k < 64) : one (k : Int) = 2 ^ k := by
  unfold one
  rw [if_pos (by omega)]
  rfl
theorem mod_yes {t k : Nat} (h : t.testBit k = true) : t % 2 ^ (k + 1) = t % 2 ^ k ||| 2 ^ k := by
  apply Nat.eq_of_testBit_eq
  intro j
  rw [mod_bit, Nat.testBit_or, mod_bit, Nat.testBit_two_pow]
  rcases Nat.lt_trichotomy j k with hj | rfl | hj
  · simp [hj, show j < k + 1 by omega, show ¬ k = j by omega]
  · simp [h]
  · simp [show ¬ j < k + 1 by omega, show ¬ j < k by omega, show ¬ k = j by omega]
theorem mod_no {t k : Nat} (h : t.testBit k = false) : t % 2 ^ (k + 1) = t % 2 ^ k := by
  apply Nat.eq_of_testBit_eq
  intro j
  rw [mod_bit, mod_bit]
  rcases Nat.lt_trichotomy j k with hj | rfl | hj
  · simp [hj, show j < k + 1 by omega]
  · simp [h]
  · simp [show ¬ j < k + 1 by omega, show ¬ j < k by omega]
theorem mod_all {t : Nat} (h : W64 t) : t % 2 ^ 64 = t := Nat.mod_eq_of_lt h
theorem has_nat (s : Nat) {k : Nat} (h : k < 64) : hasB s (k : Int) = s.testBit k := by
  unfold hasB
  rw [decide_eq_true (by omega), Bool.true_and]
  rfl
theorem mod_w (t k : Nat) (h : W64 t) : W64 (t % 2 ^ k) := Nat.lt_of_le_of_lt (Nat.mod_le _ _) h
theorem diff_or {s t k : Nat} (hs : W64 s) (ht : W64 t) (h : t.testBit k = true) (hk : k < 64) : diffB (diffB s (t % 2 ^ k)) (one (k : Int)) = diffB s (t % 2 ^ (k + 1)) := by
  refine same_bits (diff_lt (diff_lt hs)) (diff_lt hs) fun j hj => ?_
  rw [diff_bit _ _ (one_lt _) j hj, diff_bit _ _ (mod_w _ _ ht) j hj, diff_bit _ _ (mod_w _ _ ht) j hj, one_at hk, mod_yes h, Nat.testBit_or, Bool.not_or, Bool.and_assoc]
theorem inter_diff {s t : Nat} (hs : W64 s) (ht : W64 t) : diffB s (diffB s t) = s &&& t := by
  refine same_bits (diff_lt hs) (and_lt hs) fun j hj => ?_
  rw [diff_bit _ _ (diff_lt hs) j hj, diff_bit _ _ ht j hj, Nat.testBit_and]
  cases s.testBit j <;> simp
/-- The elements below a bound, in ascending order. -/
def elemsTo (s k : Nat) : List Nat := (List.range k).filter fun i => s.testBit i
def intN (l : List Nat) : List Int := l.map fun i : Nat => (i : Int)
theorem intN_len (l : List Nat) : (intN l).length = l.length := List.length_map _
theorem elems_to (s : Nat) : elemsTo s 64 = elems s := rfl
theorem to_yes {s k : Nat} (h : s.testBit k = true) : intN (elemsTo s (k + 1)) = intN (elemsTo s k) ++ [(k : Int)] := by
  unfold elemsTo intN
  rw [List.range_succ, List.filter_append, List.map_append]
  simp [h]
theorem to_no {s k : Nat} (h : s.testBit k = false) : elemsTo s (k + 1) = elemsTo s k := by
  unfold elemsTo
  rw [List.range_succ, List.filter_append]
  simp [h]
theorem to_len (s k : Nat) : (elemsTo s k).length ≤ k := by
  have := List.length_filter_le (fun i => s.testBit i) (List.range k)
  rw [List.length_range] at this
  exact this
theorem set_snoc (l : List Int) (x : Int) : setOfL (l ++ [x]) = setOfL l ||| one x := by
  unfold setOfL
  rw [List.foldl_append]
  show (if 0 ≤ x ∧ x < 64 then putB _ x.toNat else _) = _
  unfold one putB
  split
  · next h => rw [if_pos (by omega)]
  · next h => rw [Nat.or_zero]
theorem set_w (l : List Int) : W64 (setOfL l) := set_lt l

/-! ### Power, Has, With, Without -/
set_option maxHeartbeats 1000000 in
theorem power_any (n : Nat) (hn : n < 64) (w : World) : Calls Try.prog 53 #[.int .i64 (n : Int)] w fun e w' => e = .returned (.int .u64 ((2 ^ n : Nat) : Int)) ∧ w = w' := by
  obtain ⟨r, hr⟩ : ∃ r : Nat, 2 ^ n = r := ⟨_, rfl⟩
  rw [hr]
  have HR := Lib.hid hr
  clear hr
  go_enter Try.func53, Try.ntmps53
  go_wp2_with fail
  go_loop [3, 4] (fun p i => ∃ k q : Nat, i = .int .i64 k ∧ k ≤ n ∧ p = .int .u64 q ∧ Hid (q = 2 ^ k)) (fun _ i => n - (intOf i).toNat)
  case atStart => exact ⟨0, 1, rfl, Nat.zero_le _, rfl, Lib.hid rfl⟩
  case round =>
    obtain ⟨k, q, rfl, hk, rfl, hq⟩ := hrel
    by_cases hlt : k < n
    · have hb : q < 9223372036854775808 := by
        have := hq.out
        have h2 : 2 ^ k ≤ 2 ^ 62 := Nat.pow_le_pow_right (by decide) (by omega)
        omega
      have e : IntKind.u64.wrap ((q : Int) * 2) = ((q * 2 : Nat) : Int) := by
        rw [IntKind.wrap_u64]
        omega
      have h2 : Hid (q * 2 = 2 ^ (k + 1)) := by
        show _ = _
        rw [hq.out, Nat.pow_succ]
      clear hb
      go_wp2_with fail
      go_round
      case rel => exact ⟨k + 1, q * 2, by go_num, by omega, by first | rfl | go_num, h2⟩
      case measure => simp [intOf]; omega
    · have d : decide (k < n) = false := decide_eq_false hlt
      have R := Lib.hid (show q = r by rw [hq.out, show k = n by omega, HR.out])
      clear hlt hq
      go_wp2_with fail
      go_ret
      exact ⟨ret_w R.out, rfl⟩
set_option maxHeartbeats 1000000 in
theorem rhas_any (s : Nat) (hs : W64 s) (i : Int) (w : World) : Calls Try.prog 47 #[.int .u64 (s : Int), .int .i64 i] w fun e w' => e = .returned (.bool (hasB s i)) ∧ w = w' := by
  by_cases h1 : 0 ≤ i
  · by_cases h2 : i < 64
    · obtain ⟨n, rfl⟩ := Int.eq_ofNat_of_zero_le h1
      have hn : n < 64 := by omega
      have P := Lib.hid (fun W => power_any n hn W)
      have hp := Nat.two_pow_pos n
      have hb := bit_div s n
      rw [has_nat s hn]
      obtain ⟨b, hbb⟩ : ∃ b, s.testBit n = b := ⟨_, rfl⟩
      rw [hbb] at hb ⊢
      clear hbb
      generalize 2 ^ n = p at P hp hb
      have H : Hid (((s : Int) / (p : Int) % 2 == 1) = b) := by
        show _ = _
        rw [← Int.natCast_ediv, Bool.eq_iff_iff, ← hb, beq_iff_eq]
        omega
      have hz : ((p : Int) == 0) = false := beq_false (by omega)
      have q1 : (0 : Int) ≤ (s : Int) / (p : Int) := Int.ediv_nonneg (by omega) (by omega)
      have q2 : (s : Int) / (p : Int) < 18446744073709551616 := by
        rw [← Int.natCast_ediv]
        have := Nat.div_le_self s p
        unfold W64 at hs
        omega
      have gn : (n : Int) < 64 := h2
      clear hb h1 h2 hs
      obtain ⟨q, hq⟩ : ∃ q : Int, (s : Int) / (p : Int) = q := ⟨_, rfl⟩
      rw [hq] at H q1 q2
      go_enter Try.func47, Try.ntmps47
      go_wp2_with fail
      refine (P.out _).mono ?_
      rintro e w' ⟨rfl, rfl⟩
      go_wp2_with fail
      go_ret
      exact ⟨ret_bool H.out, rfl⟩
    · have d : decide (i < 64) = false := decide_eq_false h2
      have H := Lib.hid (show hasB s i = false by unfold hasB; rw [decide_eq_false (by omega)]; rfl)
      clear h2
      go_enter Try.func47, Try.ntmps47
      go_wp2_with fail
      go_ret
      exact ⟨ret_bool H.out.symm, rfl⟩
  · have d : decide (0 ≤ i) = false := decide_eq_false h1
    have H := Lib.hid (show hasB s i = false by unfold hasB; rw [decide_eq_false (by omega)]; rfl)
    clear h1
    go_enter Try.func47, Try.ntmps47
    go_wp2_with fail
    go_ret
    exact ⟨ret_bool H.out.symm, rfl⟩
set_option maxHeartbeats 1000000 in
theorem rwith_any (s : Nat) (hs : W64 s) (i : Int) (w : World) : Calls Try.prog 48 #[.int .u64 (s : Int), .int .i64 i] w fun e w' => e = .returned (.int .u64 ((s ||| one i : Nat) : Int)) ∧ w = w' := by
  by_cases h1 : i < 0
  · have H := Lib.hid (show s ||| one i = s by unfold one; rw [if_neg (by omega), Nat.or_zero])
    rw [H.out]
    go_enter Try.func48, Try.ntmps48
    go_wp2_with fail
    go_ret
    exact ⟨rfl, rfl⟩
  have d1 : decide (i < 0) = false := decide_eq_false h1
  by_cases h2 : 63 < i
  · have H := Lib.hid (show s ||| one i = s by unfold one; rw [if_neg (by omega), Nat.or_zero])
    rw [H.out]
    clear h1
    go_enter Try.func48, Try.ntmps48
    go_wp2_with fail
    go_ret
    exact ⟨rfl, rfl⟩
  have d2 : decide (63 < i) = false := decide_eq_false h2
  obtain ⟨n, rfl⟩ := Int.eq_ofNat_of_zero_le (show 0 ≤ i by omega)
  have hn : n < 64 := by omega
  have M := Lib.hid (fun W => rhas_any s hs (n : Int) W)
  rw [has_nat s hn] at M
  rw [one_at hn]
  have P := Lib.hid (fun W => power_any n hn W)
  cases hb : s.testBit n with
  | true =>
    rw [hb] at M
    have H : Hid (s ||| 2 ^ n = s) := by
      have := put_same hb
      unfold putB at this
      rw [if_pos hn] at this
      exact this
    rw [H.out]
    clear h1 h2 hs hb
    go_enter Try.func48, Try.ntmps48
    go_wp2_with fail
    refine (M.out _).mono ?_
    rintro e w' ⟨rfl, rfl⟩
    go_wp2_with fail
    go_ret
    exact ⟨rfl, rfl⟩
  | false =>
    rw [hb] at M
    have hl : s ||| 2 ^ n < 18446744073709551616 := or_lt hs (pow_lt64 hn)
    rw [← bit_add hb] at hl ⊢
    have e : IntKind.u64.wrap ((s : Int) + ((2 ^ n : Nat) : Int)) = ((s + 2 ^ n : Nat) : Int) := by
      rw [← Int.natCast_add]
      exact wrap_in _ hl
    clear h1 h2 hs hb hl
    generalize s + 2 ^ n = r at e ⊢
    generalize 2 ^ n = p at e P
    go_enter Try.func48, Try.ntmps48
    go_wp2_with fail
    refine (M.out _).mono ?_
    rintro e w' ⟨rfl, rfl⟩
    go_wp2_with fail
    refine (P.out _).mono ?_
    rintro e w' ⟨rfl, rfl⟩
    go_wp2_with fail
    go_ret
    exact ⟨rfl, rfl⟩
set_option maxHeartbeats 1000000 in
theorem rwithout_any (s : Nat) (hs : W64 s) (i : Int) (w : World) : Calls Try.prog 49 #[.int .u64 (s : Int), .int .i64 i] w fun e w' => e = .returned (.int .u64 ((diffB s (one i) : Nat) : Int)) ∧ w = w' := by
  have M := Lib.hid (fun W => rhas_any s hs i W)
  cases hb : hasB s i with
  | false =>
    have H : Hid (diffB s (one i) = s) := by
      refine same_bits (diff_lt hs) hs fun j hj => ?_
      rw [diff_bit _ _ (one_lt _) j hj, one_bit i j hj]
      by_cases hij : i = (j : Int)
      · subst hij
        rw [has_nat s hj] at hb
        simp [hb]
      · simp [hij]
    rw [hb] at M
    rw [H.out]
    clear hs hb
    go_enter Try.func49, Try.ntmps49
    go_wp2_with fail
    refine (M.out _).mono ?_
    rintro e w' ⟨rfl, rfl⟩
    go_wp2_with fail
    go_ret
    exact ⟨rfl, rfl⟩
  | true =>
    rw [hb] at M
    unfold hasB at hb
    rw [Bool.and_eq_true, decide_eq_true_iff] at hb
    obtain ⟨⟨h0, h1⟩, hb⟩ := hb
    obtain ⟨n, rfl⟩ := Int.eq_ofNat_of_zero_le h0
    have hn : n < 64 := by omega
    have hb : s.testBit n = true := hb
    have P := Lib.hid (fun W => power_any n hn W)
    have hd : delB s n = diffB s (one (n : Int)) := by
      refine same_bits (Nat.lt_of_le_of_lt (del_le _ _) hs) (diff_lt hs) fun j hj => ?_
      rw [del_bit, diff_bit _ _ (one_lt _) j hj, one_bit _ j hj]
      congr 2
      rw [Bool.eq_iff_iff, decide_eq_true_iff, decide_eq_true_iff]
      omega
    rw [← hd]
    have he : delB s n = s - 2 ^ n := by
      unfold delB
      rw [if_pos hb]
    have hle : 2 ^ n ≤ s := Nat.ge_two_pow_of_testBit hb
    have e : IntKind.u64.wrap ((s : Int) - ((2 ^ n : Nat) : Int)) = ((delB s n : Nat) : Int) := by
      rw [he, IntKind.wrap_u64, ← Int.natCast_sub hle]
      exact Int.emod_eq_of_lt (Int.natCast_nonneg _) (by unfold W64 at hs; have := Nat.sub_le s (2 ^ n); generalize s - 2 ^ n = d at this ⊢; omega)
    clear h0 h1 hs hb hd he hle
    generalize delB s n = r at e ⊢
    generalize 2 ^ n = p at e P
    go_enter Try.func49, Try.ntmps49
    go_wp2_with fail
    refine (M.out _).mono ?_
    rintro e w' ⟨rfl, rfl⟩
    go_wp2_with fail
    refine (P.out _).mono ?_
    rintro e w' ⟨rfl, rfl⟩
    go_wp2_with fail
    go_ret
    exact ⟨rfl, rfl⟩

/-! ### Of, Range, Union, Minus, Intersect -/
theorem all_at {l : List Int} {k : Nat} {x : Int} (h : l[k]? = some x) : l.take (k + 1) = l.take k ++ [x] := take_at l k x h
/-- The range, up to a bound. -/
theorem rng_bit (i j : Int) (k : Nat) (hk : k < 64) : (diffB (lowN j) (lowN i)).testBit k = (decide (i ≤ (k : Int)) && decide ((k : Int) < j)) := by
  rw [diff_bit _ _ (low_lt i) k hk, low_bit j k hk, low_bit i k hk]
  by_cases h1 : (k : Int) < i
  · simp [h1, show ¬ i ≤ (k : Int) by omega]
  · simp [h1, show i ≤ (k : Int) by omega]
theorem or_step {s t k : Nat} (h : t.testBit k = true) (hk : k < 64) : (s ||| t % 2 ^ k) ||| one (k : Int) = s ||| t % 2 ^ (k + 1) := by
  rw [one_at hk, mod_yes h, Nat.or_assoc]
set_option maxHeartbeats 1000000 in
theorem runion_any (s t : Nat) (hs : W64 s) (ht : W64 t) (w : World) : Calls Try.prog 34 #[.int .u64 (s : Int), .int .u64 (t : Int)] w fun e w' => e = .returned (.int .u64 ((s ||| t : Nat) : Int)) ∧ w = w' := by
  obtain ⟨r, hr⟩ : ∃ r, s ||| t = r := ⟨_, rfl⟩
  rw [hr]
  have HR := Lib.hid hr
  have HS := Lib.hid hs
  have HT := Lib.hid ht
  clear hr hs ht
  go_enter Try.func34, Try.ntmps34
  go_wp2_with fail
  go_loop [0, 5] (fun v i => ∃ k q : Nat, i = .int .i64 k ∧ k ≤ 64 ∧ v = .int .u64 q ∧ Hid (q = s ||| t % 2 ^ k)) (fun _ i => 64 - (intOf i).toNat)
  case atStart => exact ⟨0, s, rfl, Nat.zero_le _, rfl, Lib.hid (by show s = _; rw [Nat.pow_zero, Nat.mod_one, Nat.or_zero])⟩
  case round =>
    obtain ⟨k, q, rfl, hk, rfl, hq⟩ := hrel
    by_cases hlt : k < 64
    · have gk : (k : Int) < 64 := by omega
      have H := Lib.hid (fun W => rhas_any t HT.out (k : Int) W)
      rw [has_nat t hlt] at H
      cases hb : t.testBit k with
      | true =>
        rw [hb] at H
        have h2 : Hid (q ||| one (k : Int) = s ||| t % 2 ^ (k + 1)) := by
          show _ = _
          rw [hq.out, or_step hb hlt]
        have hwq : W64 q := by rw [hq.out]; exact or_lt HS.out (mod_w _ _ HT.out)
        have M := Lib.hid (fun W => rwith_any q hwq (k : Int) W)
        generalize q ||| one (k : Int) = q2 at M h2
        clear hb hwq hq
        go_wp2_with fail
        refine (H.out _).mono ?_
        rintro e w' ⟨rfl, rfl⟩
        go_wp2_with fail
        refine (M.out _).mono ?_
        rintro e w' ⟨rfl, rfl⟩
        go_wp2_with fail
        go_round
        case rel => exact ⟨k + 1, q2, by go_num, by omega, rfl, h2⟩
        case measure => simp [intOf]; omega
      | false =>
        rw [hb] at H
        have h2 : Hid (q = s ||| t % 2 ^ (k + 1)) := by
          show _ = _
          rw [hq.out, mod_no hb]
        clear hb hq
        go_wp2_with fail
        refine (H.out _).mono ?_
        rintro e w' ⟨rfl, rfl⟩
        go_wp2_with fail
        go_round
        case rel => exact ⟨k + 1, q, by go_num, by omega, rfl, h2⟩
        case measure => simp [intOf]; omega
    · have d : decide ((k : Int) < 64) = false := decide_eq_false (by omega)
      have R := Lib.hid (show q = r by rw [hq.out, show k = 64 by omega, mod_all HT.out, HR.out])
      clear hlt hq
      go_wp2_with fail
      go_ret
      exact ⟨ret_w R.out, rfl⟩
theorem diff_zero (s : Nat) (hs : W64 s) : diffB s 0 = s := by
  refine same_bits (diff_lt hs) hs fun j hj => ?_
  rw [diff_bit _ _ (by decide) j hj]
  simp
set_option maxHeartbeats 1000000 in
theorem rminus_any (s t : Nat) (hs : W64 s) (ht : W64 t) (w : World) : Calls Try.prog 36 #[.int .u64 (s : Int), .int .u64 (t : Int)] w fun e w' => e = .returned (.int .u64 ((diffB s t : Nat) : Int)) ∧ w = w' := by
  obtain ⟨r, hr⟩ : ∃ r, diffB s t = r := ⟨_, rfl⟩
  rw [hr]
  have HR := Lib.hid hr
  have HS := Lib.hid hs
  have HT := Lib.hid ht
  clear hr hs ht
  go_enter Try.func36, Try.ntmps36
  go_wp2_with fail
  go_loop [0, 5] (fun v i => ∃ k q : Nat, i = .int .i64 k ∧ k ≤ 64 ∧ v = .int .u64 q ∧ Hid (q = diffB s (t % 2 ^ k))) (fun _ i => 64 - (intOf i).toNat)
  case atStart => exact ⟨0, s, rfl, Nat.zero_le _, rfl, Lib.hid (by show s = _; rw [Nat.pow_zero, Nat.mod_one, diff_zero s HS.out])⟩
  case round =>
    obtain ⟨k, q, rfl, hk, rfl, hq⟩ := hrel
    by_cases hlt : k < 64
    · have gk : (k : Int) < 64 := by omega
      have H := Lib.hid (fun W => rhas_any t HT.out (k : Int) W)
      rw [has_nat t hlt] at H
      cases hb : t.testBit k with
      | true =>
        rw [hb] at H
        have h2 : Hid (diffB q (one (k : Int)) = diffB s (t % 2 ^ (k + 1))) := by
          show _ = _
          rw [hq.out, diff_or HS.out HT.out hb hlt]
        have hwq : W64 q := by rw [hq.out]; exact diff_lt HS.out
        have M := Lib.hid (fun W => rwithout_any q hwq (k : Int) W)
        generalize diffB q (one (k : Int)) = q2 at M h2
        clear hb hwq hq
        go_wp2_with fail
        refine (H.out _).mono ?_
        rintro e w' ⟨rfl, rfl⟩
        go_wp2_with fail
        refine (M.out _).mono ?_
        rintro e w' ⟨rfl, rfl⟩
        go_wp2_with fail
        go_round
        case rel => exact ⟨k + 1, q2, by go_num, by omega, rfl, h2⟩
        case measure => simp [intOf]; omega
      | false =>
        rw [hb] at H
        have h2 : Hid (q = diffB s (t % 2 ^ (k + 1))) := by
          show _ = _
          rw [hq.out, mod_no hb]
        clear hb hq
        go_wp2_with fail
        refine (H.out _).mono ?_
        rintro e w' ⟨rfl, rfl⟩
        go_wp2_with fail
        go_round
        case rel => exact ⟨k + 1, q, by go_num, by omega, rfl, h2⟩
        case measure => simp [intOf]; omega
    · have d : decide ((k : Int) < 64) = false := decide_eq_false (by omega)
      have R := Lib.hid (show q = r by rw [hq.out, show k = 64 by omega, mod_all HT.out, HR.out])
      clear hlt hq
      go_wp2_with fail
      go_ret
      exact ⟨ret_w R.out, rfl⟩
end Go.Proofs.Ytkpmmojfnhfflaa
