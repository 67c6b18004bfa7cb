/-
  Modes and WithModes of package route and of its reference: what each call answers; nothing that existed before the call has changed behind it. Condition: lists of at most 10^6 routes.
-/
import Derived.Test.YtlpemdhjbpekaaaDoorJChk
import Derived.Test.YtlpemdhjbpekaaaDoorJBit
namespace Go.Proofs.YtlpemdhjbpekaaaDoor
open Go.RowKit

set_option maxRecDepth 100000 in
set_option maxHeartbeats 4000000 in
theorem kmodes_any (v : Value) (l : List Rt) (hl : l.length ≤ 1099511627776) (w : World) (h : LstR w v l) : Calls Tryd.prog 17 #[v] w fun e w' => e = .returned (.int .u64 ((modR l : Nat) : Int)) ∧ Below w.heap.size w w' := by
  have H := Lib.hid h
  obtain ⟨A, c, rfl, -, -, -⟩ := h
  obtain ⟨r, hr⟩ : ∃ r, modR l = r := ⟨_, rfl⟩
  rw [hr]
  have HR := Lib.hid hr
  clear hr
  go_enter Tryd.func17, Tryd.ntmps17
  go_wp2_with fail
  go_loopw [3, 8] (fun u i wr => ∃ k s : Nat, u = .int .u64 (s : Int) ∧ i = .int .i64 k ∧ k ≤ l.length ∧ W64 s ∧ Hid (r = modF s (l.drop k)) ∧ Hid (Below w.heap.size w wr)) (fun _ i _ => l.length - (intOf i).toNat)
  case atStart => exact ⟨0, 0, rfl, rfl, Nat.zero_le _, by decide, Lib.hid (by rw [← HR.out]; rfl), Lib.hid (Below.refl _ _)⟩
  case round =>
    obtain ⟨k, s, rfl, rfl, hk, hs, hz, HB⟩ := hrel
    by_cases hlt : k < l.length
    · obtain ⟨⟨id, m, f⟩, hx⟩ := at_lt hlt
      have N := Lib.hid (modF_next hz.out hx)
      simp only at N
      obtain ⟨nm, hnm⟩ : ∃ nm, str id = nm := ⟨_, rfl⟩
      obtain ⟨b, o, rfl, hb, r0, r1, r2⟩ := three_at (H.out.below HB.out) hx hnm
      have gk : (k : Int) < (l.length : Int) := by omega
      obtain ⟨w7, hw7⟩ : ∃ W, wr.alloc (.cells #[.string nm, .int .i64 m, .bool f] 50 (0, 0)) = W := ⟨_, rfl⟩
      obtain ⟨b7, p0, p1, p2, -⟩ := box_rt hw7
      have B7 : Hid (Below w.heap.size w w7) := HB.out.trans (b7.mono HB.out.size)
      have LT : Hid (W64 (s ||| one m)) := or_lt hs (one_lt m)
      have C := Lib.hid (fun W => with_any s hs m W)
      generalize s ||| one m = s2 at N LT C
      clear hx hz HB b7 hnm hb hs
      go_wp2_with fail
      refine (C.out _).mono ?_
      rintro e w' ⟨rfl, rfl⟩
      go_wp2_with fail
      go_roundw
      case rel => exact ⟨k + 1, s2, rfl, by go_num, by omega, LT.out, N, B7⟩
      case measure => simp [intOf]; omega
    · have R := Lib.hid (modF_done hz.out (by omega))
      have d : decide (k < l.length) = false := by rw [decide_eq_false_iff_not]; exact hlt
      have C := Lib.hid (fun W => intersect_any s 255 hs (by decide) W)
      rw [← R.out] at C
      clear hz hlt
      go_wp2_with fail
      refine (C.out _).mono ?_
      rintro e w' ⟨rfl, rfl⟩
      go_wp2_with fail
      go_ret
      exact ⟨rfl, HB.out⟩

/-! ### The reference's set, a mode at a time -/
theorem any_take {α : Type} {p : α → Bool} {l : List α} {j : Nat} {x : α} (h : l[j]? = some x) : (l.take (j + 1)).any p = ((l.take j).any p || p x) := by
  rw [take_at l j x h, List.any_append, List.any_cons, List.any_nil, Bool.or_false]
/-- Whether the mode is one of a route's. -/
def isM (m : Nat) (x : Rt) : Bool := decide (x.2.1 = (m : Int))
theorem modR_has (l : List Rt) (m : Nat) (h : m < 8) : (modR l).testBit m = l.any (isM m) := modR_bit l m h
theorem mod_step1 {t m : Nat} (h : t.testBit m = true) : t % 2 ^ (m + 1) = t % 2 ^ m + 2 ^ m := by
  rw [mod_yes h, put_low (Nat.mod_lt _ (Nat.two_pow_pos m))]
set_option maxRecDepth 100000 in
set_option maxHeartbeats 4000000 in
theorem rmodes_any (v : Value) (l : List Rt) (hl : l.length ≤ 1099511627776) (w : World) (h : LstR w v l) : Calls Tryd.prog 18 #[v] w fun e w' => e = .returned (.int .u64 ((modR l : Nat) : Int)) ∧ w = w' := by
  have H := Lib.hid h
  obtain ⟨A, c, rfl, -, -, -⟩ := h
  have hlt256 := modR_lt l
  have HB := Lib.hid (fun m h => modR_has l m h)
  generalize modR l = r at HB hlt256 ⊢
  have h0 : r % 2 ^ 0 = 0 := Nat.mod_one r
  go_enter Tryd.func18, Tryd.ntmps18
  go_wp2_with fail
  go_loop [3, 4] (fun u i => ∃ m : Nat, u = .int .u64 ((r % 2 ^ m : Nat) : Int) ∧ i = .int .i64 m ∧ m ≤ 8) (fun _ i => 8 - (intOf i).toNat)
  case atStart => exact ⟨0, by rw [h0]; rfl, rfl, Nat.zero_le _⟩
  case round =>
    clear h0
    obtain ⟨m, rfl, rfl, hm⟩ := hrel
    by_cases hlt : m < 8
    · have gm : (m : Int) < 8 := by omega
      have hb := HB.out m hlt
      have hp : r % 2 ^ m < 2 ^ m := Nat.mod_lt _ (Nat.two_pow_pos m)
      have hp2 : 2 ^ m ≤ 2 ^ 7 := Nat.pow_le_pow_right (by decide) (by omega)
      have E1 := Lib.hid (fun h : r.testBit m = true => mod_step1 h)
      have E0 := Lib.hid (fun h : r.testBit m = false => mod_no h)
      obtain ⟨s, hs⟩ : ∃ s, r % 2 ^ m = s := ⟨_, rfl⟩
      rw [hs] at hp E1 E0 ⊢
      clear hs
      go_wp2_with fail
      go_loop [5, 6] (fun u i => ∃ j : Nat, u = .bool ((l.take j).any (isM m)) ∧ i = .int .i64 j ∧ j ≤ l.length) (fun _ i => l.length - (intOf i).toNat)
      case atStart => exact ⟨0, rfl, rfl, Nat.zero_le _⟩
      case round =>
        obtain ⟨j, rfl, rfl, hj⟩ := hrel
        by_cases hjl : j < l.length
        · obtain ⟨⟨id, x, f⟩, hx⟩ := at_lt hjl
          obtain ⟨b, o, rfl, hbk, -, r1, -⟩ := three_at H.out hx rfl
          have gj : (j : Int) < (l.length : Int) := by omega
          have T := any_take (p := isM m) hx
          cases ha : (l.take j).any (isM m) with
          | true =>
            have N : Hid ((l.take (j + 1)).any (isM m) = true) := by show _ = _; rw [T, ha]; rfl
            clear T hx ha hb
            go_wp2_with fail
            go_round
            case rel => exact ⟨j + 1, by rw [N.out], by go_num, by omega⟩
            case measure => simp [intOf]; omega
          | false =>
            by_cases he : x = (m : Int)
            · have g := beq_true he
              have N : Hid ((l.take (j + 1)).any (isM m) = true) := by show _ = _; rw [T, ha, show isM m (id, x, f) = true from decide_eq_true he]; rfl
              clear T hx ha hb he
              go_wp2_with fail
              go_round
              case rel => exact ⟨j + 1, by rw [N.out], by go_num, by omega⟩
              case measure => simp [intOf]; omega
            · have g := beq_false he
              have N : Hid ((l.take (j + 1)).any (isM m) = false) := by show _ = _; rw [T, ha, show isM m (id, x, f) = false from decide_eq_false he]; rfl
              clear T hx ha hb he
              go_wp2_with fail
              go_round
              case rel => exact ⟨j + 1, by rw [N.out], by go_num, by omega⟩
              case measure => simp [intOf]; omega
        · have d : decide (j < l.length) = false := by rw [decide_eq_false_iff_not]; exact hjl
          rw [List.take_of_length_le (by omega), ← hb]
          clear hjl
          cases ht : r.testBit m with
          | true =>
            have E := Lib.hid (E1.out ht)
            have e0 : IntKind.u64.wrap (m : Int) = (m : Int) := by rw [IntKind.wrap_u64]; omega
            have e1 : IntKind.u64.wrap (2 ^ m) = ((2 ^ m : Nat) : Int) := by
              rw [IntKind.wrap_u64, two_cast]
              exact Int.emod_eq_of_lt (Int.natCast_nonneg _) (by omega)
            have e2 : IntKind.u64.wrap ((s : Int) + ((2 ^ m : Nat) : Int)) = ((s + 2 ^ m : Nat) : Int) := by
              rw [← Int.natCast_add, IntKind.wrap_u64]
              exact Int.emod_eq_of_lt (Int.natCast_nonneg _) (by omega)
            clear hb ht E1 E0
            generalize 2 ^ m = p at *
            go_wp2_with fail
            go_round
            case rel => exact ⟨m + 1, by rw [E.out, Int.natCast_add], by go_num, by omega⟩
            case measure => simp [intOf]; omega
          | false =>
            have E := Lib.hid (E0.out ht)
            clear hb ht E1 E0
            go_wp2_with fail
            go_round
            case rel => exact ⟨m + 1, by rw [E.out], by go_num, by omega⟩
            case measure => simp [intOf]; omega
    · obtain rfl : m = 8 := by omega
      have E : Hid (r % 2 ^ 8 = r) := Nat.mod_eq_of_lt hlt256
      rw [E.out]
      have d : decide (((8 : Nat) : Int) < 8) = false := rfl
      clear hlt hm
      go_wp2_with fail
      go_ret
      exact ⟨rfl, rfl⟩

/-! ### WithModes -/
/-- The set of the chosen modes. -/
def chsN (n : Int) : Nat := if n = 0 then 255 else wordR n &&& 255
theorem chs_lt (n : Int) : W64 (chsN n) := by
  unfold chsN
  split
  · decide
  · exact and_lt (word_lt n)
theorem chs_has (n : Int) (x : Rt) : hasB (chsN n) x.2.1 = hasR n x := by
  by_cases hm : okM x.2.1
  · have hm8 : x.2.1.toNat < 8 := by unfold okM at hm; omega
    have h64 : 0 ≤ x.2.1 ∧ x.2.1 < 64 := by unfold okM at hm; omega
    unfold hasB
    rw [decide_eq_true h64, Bool.true_and]
    unfold chsN
    by_cases h0 : n = 0
    · subst h0
      rw [if_pos rfl, hasR_zero hm, show (255 : Nat) = 2 ^ 8 - 1 by rfl, Nat.testBit_two_pow_sub_one, decide_eq_true hm8]
    · rw [if_neg h0, hasR_bit hm h0, show (255 : Nat) = 2 ^ 8 - 1 by rfl, Nat.testBit_and, Nat.testBit_two_pow_sub_one, decide_eq_true hm8, Bool.and_true]
  · rw [hasR_no hm]
    unfold hasB
    by_cases h64 : 0 ≤ x.2.1 ∧ x.2.1 < 64
    · have hm8 : ¬ x.2.1.toNat < 8 := by unfold okM at hm; omega
      rw [decide_eq_true h64, Bool.true_and]
      unfold chsN
      split
      · rw [show (255 : Nat) = 2 ^ 8 - 1 by rfl, Nat.testBit_two_pow_sub_one, decide_eq_false hm8]
      · rw [show (255 : Nat) = 2 ^ 8 - 1 by rfl, Nat.testBit_and, Nat.testBit_two_pow_sub_one, decide_eq_false hm8, Bool.and_false]
    · rw [decide_eq_false h64, Bool.false_and]
set_option maxRecDepth 100000 in
set_option maxHeartbeats 4000000 in
theorem kwith_any (v : Value) (l : List Rt) (hl : l.length ≤ 1000000) (n : Int) (w : World) (h : LstR w v l) : Calls Tryd.prog 20 #[v, .int .i64 n] w fun e w' => ∃ u, e = .returned u ∧ OwnI w' w.heap.size u (withR n l) ∧ Below w.heap.size w w' := by
  have H := Lib.hid h
  have HC := Lib.hid (chs_has n)
  have HL := chs_lt n
  obtain ⟨A, c, rfl, -, -, -⟩ := h
  have HI : Hid (∀ w : World, Calls Tryd.prog 33 #[.int .u64 ((if n = 0 then (255 : Nat) else wordR n : Nat) : Int), .int .u64 255] w fun e w' => e = .returned (.int .u64 ((chsN n : Nat) : Int)) ∧ w = w') := by
    intro W
    unfold chsN
    by_cases h0 : n = 0
    · rw [if_pos h0, if_pos h0]
      exact intersect_any 255 255 (by decide) (by decide) W
    · rw [if_neg h0, if_neg h0]
      exact intersect_any (wordR n) 255 (word_lt n) (by decide) W
  generalize chsN n = s at HC HL HI
  by_cases h0 : n = 0
  · rw [if_pos h0] at HI
    have g := beq_true h0
    clear h0
    go_enter Tryd.func20, Tryd.ntmps20
    go_wp2_with fail
    refine (HI.out _).mono ?_
    rintro e w' ⟨rfl, rfl⟩
    clear HI g
    go_wp2_with fail
    go_loopw [6, 16] (fun u i wr => ∃ k : Nat, i = .int .i64 k ∧ k ≤ l.length ∧ Hid (OwnI wr w.heap.size u (withR n (l.take k))) ∧ Hid (Below w.heap.size w wr)) (fun _ i _ => l.length - (intOf i).toNat)
    case atStart => exact ⟨0, rfl, Nat.zero_le _, Lib.hid (OwnI.nil _ _), Lib.hid (Below.refl _ _)⟩
    case round =>
      obtain ⟨k, rfl, hk, HO, HB⟩ := hrel
      by_cases hlt : k < l.length
      · obtain ⟨⟨id, m, f⟩, hx⟩ := at_lt hlt
        obtain ⟨nm, hnm⟩ : ∃ nm, str id = nm := ⟨_, rfl⟩
        obtain ⟨b, o, rfl, hb, r0, r1, r2⟩ := three_at (H.out.below HB.out) hx hnm
        have gk : (k : Int) < (l.length : Int) := by omega
        obtain ⟨w7, hw7⟩ : ∃ W, wr.alloc (.cells #[.string nm, .int .i64 m, .bool f] 50 (0, 0)) = W := ⟨_, rfl⟩
        obtain ⟨b7, p0, p1, p2, -⟩ := box_rt hw7
        have B7 : Hid (Below w.heap.size w w7) := HB.out.trans (b7.mono HB.out.size)
        have O7 := Lib.hid (HO.out.below b7)
        have S := Lib.hid (fun W => has_any s HL m W)
        rw [show hasB s m = hasR n (id, m, f) from HC.out (id, m, f)] at S
        cases he : hasR n (id, m, f) with
        | true =>
          have N := Lib.hid (ix_hit hx he)
          rw [he] at S
          have hlen : (withR n (l.take k)).length ≤ 1000000 := by
            have := with_le n (l.take k)
            rw [List.length_take] at this
            omega
          have hz := B7.out.size
          clear hx HO HB b7 hnm hb he
          go_wp2_with fail
          refine (S.out _).mono ?_
          rintro e w' ⟨rfl, rfl⟩
          clear S
          go_wp2_with (at_builtin; refine app_int _ rfl _ _ rfl w.heap.size _ (withR n (l.take k)) (k : Int) rfl (OwnI.below O7.out ((Below.refl _ _).alloc (Nat.le_refl _) _)) w7.heap.size _ (heap_alloc_new _ _) rfl rfl (by simp; omega) (by omega) ?_
                       intro v1 w1 own1 b1
                       have O1 := Lib.hid own1
                       have B1 : Hid (Below w.heap.size w w1) := (B7.out.alloc hz _).trans b1
                       clear own1 b1)
          go_roundw
          case rel => exact ⟨k + 1, by go_num, by omega, by unfold withR; rw [N.out]; exact O1, B1⟩
          case measure => simp [intOf]; omega
        | false =>
          have N := Lib.hid (ix_miss hx he)
          rw [he] at S
          clear hx HO HB b7 hnm hb he
          go_wp2_with fail
          refine (S.out _).mono ?_
          rintro e w' ⟨rfl, rfl⟩
          clear S
          go_wp2_with fail
          go_roundw
          case rel => exact ⟨k + 1, by go_num, by omega, by unfold withR; rw [N.out]; exact O7, B7⟩
          case measure => simp [intOf]; omega
      · have E : Hid (OwnI wr w.heap.size u6 (withR n l)) := by
          have := HO.out
          rw [List.take_of_length_le (by omega)] at this
          exact this
        have d : decide (k < l.length) = false := by rw [decide_eq_false_iff_not]; exact hlt
        clear hlt HO
        go_wp2_with fail
        go_ret
        exact ⟨_, rfl, E.out, HB.out⟩
  · rw [if_neg h0] at HI
    have g := beq_false h0
    have e1 := wrap_word n
    generalize ((wordR n : Nat) : Int) = x at e1 HI
    clear h0
    go_enter Tryd.func20, Tryd.ntmps20
    go_wp2_with fail
    refine (HI.out _).mono ?_
    rintro e w' ⟨rfl, rfl⟩
    clear HI g e1
    go_wp2_with fail
    go_loopw [6, 16] (fun u i wr => ∃ k : Nat, i = .int .i64 k ∧ k ≤ l.length ∧ Hid (OwnI wr w.heap.size u (withR n (l.take k))) ∧ Hid (Below w.heap.size w wr)) (fun _ i _ => l.length - (intOf i).toNat)
    case atStart => exact ⟨0, rfl, Nat.zero_le _, Lib.hid (OwnI.nil _ _), Lib.hid (Below.refl _ _)⟩
    case round =>
      obtain ⟨k, rfl, hk, HO, HB⟩ := hrel
      by_cases hlt : k < l.length
      · obtain ⟨⟨id, m, f⟩, hx⟩ := at_lt hlt
        obtain ⟨nm, hnm⟩ : ∃ nm, str id = nm := ⟨_, rfl⟩
        obtain ⟨b, o, rfl, hb, r0, r1, r2⟩ := three_at (H.out.below HB.out) hx hnm
        have gk : (k : Int) < (l.length : Int) := by omega
        obtain ⟨w7, hw7⟩ : ∃ W, wr.alloc (.cells #[.string nm, .int .i64 m, .bool f] 50 (0, 0)) = W := ⟨_, rfl⟩
        obtain ⟨b7, p0, p1, p2, -⟩ := box_rt hw7
        have B7 : Hid (Below w.heap.size w w7) := HB.out.trans (b7.mono HB.out.size)
        have O7 := Lib.hid (HO.out.below b7)
        have S := Lib.hid (fun W => has_any s HL m W)
        rw [show hasB s m = hasR n (id, m, f) from HC.out (id, m, f)] at S
        cases he : hasR n (id, m, f) with
        | true =>
          have N := Lib.hid (ix_hit hx he)
          rw [he] at S
          have hlen : (withR n (l.take k)).length ≤ 1000000 := by
            have := with_le n (l.take k)
            rw [List.length_take] at this
            omega
          have hz := B7.out.size
          clear hx HO HB b7 hnm hb he
          go_wp2_with fail
          refine (S.out _).mono ?_
          rintro e w' ⟨rfl, rfl⟩
          clear S
          go_wp2_with (at_builtin; refine app_int _ rfl _ _ rfl w.heap.size _ (withR n (l.take k)) (k : Int) rfl (OwnI.below O7.out ((Below.refl _ _).alloc (Nat.le_refl _) _)) w7.heap.size _ (heap_alloc_new _ _) rfl rfl (by simp; omega) (by omega) ?_
                       intro v1 w1 own1 b1
                       have O1 := Lib.hid own1
                       have B1 : Hid (Below w.heap.size w w1) := (B7.out.alloc hz _).trans b1
                       clear own1 b1)
          go_roundw
          case rel => exact ⟨k + 1, by go_num, by omega, by unfold withR; rw [N.out]; exact O1, B1⟩
          case measure => simp [intOf]; omega
        | false =>
          have N := Lib.hid (ix_miss hx he)
          rw [he] at S
          clear hx HO HB b7 hnm hb he
          go_wp2_with fail
          refine (S.out _).mono ?_
          rintro e w' ⟨rfl, rfl⟩
          clear S
          go_wp2_with fail
          go_roundw
          case rel => exact ⟨k + 1, by go_num, by omega, by unfold withR; rw [N.out]; exact O7, B7⟩
          case measure => simp [intOf]; omega
      · have E : Hid (OwnI wr w.heap.size u6 (withR n l)) := by
          have := HO.out
          rw [List.take_of_length_le (by omega)] at this
          exact this
        have d : decide (k < l.length) = false := by rw [decide_eq_false_iff_not]; exact hlt
        clear hlt HO
        go_wp2_with fail
        go_ret
        exact ⟨_, rfl, E.out, HB.out⟩
set_option maxRecDepth 100000 in
set_option maxHeartbeats 4000000 in
theorem rwith_any (v : Value) (l : List Rt) (hl : l.length ≤ 1000000) (n : Int) (w : World) (h : LstR w v l) : Calls Tryd.prog 21 #[v, .int .i64 n] w fun e w' => ∃ u, e = .returned u ∧ OwnI w' w.heap.size u (withR n l) ∧ Below w.heap.size w w' := by
  have H := Lib.hid h
  obtain ⟨A, c, rfl, -, -, -⟩ := h
  go_enter Tryd.func21, Tryd.ntmps21
  go_wp2_with fail
  go_loopw [5, 6] (fun u i wr => ∃ k : Nat, i = .int .i64 k ∧ k ≤ l.length ∧ Hid (OwnI wr w.heap.size u (withR n (l.take k))) ∧ Hid (Below w.heap.size w wr)) (fun _ i _ => l.length - (intOf i).toNat)
  case atStart => exact ⟨0, rfl, Nat.zero_le _, Lib.hid (OwnI.nil _ _), Lib.hid (Below.refl _ _)⟩
  case round =>
    obtain ⟨k, rfl, hk, HO, HB⟩ := hrel
    by_cases hlt : k < l.length
    · obtain ⟨⟨id, m, f⟩, hx⟩ := at_lt hlt
      obtain ⟨b, o, rfl, hb, -, r1, -⟩ := three_at (H.out.below HB.out) hx rfl
      have gk : (k : Int) < (l.length : Int) := by omega
      have hlen : (withR n (l.take k)).length ≤ 1000000 := by
        have := with_le n (l.take k)
        rw [List.length_take] at this
        omega
      have hz := HB.out.size
      have M := Lib.hid (fun W => rmode_any m W)
      have hways : (hasR n (id, m, f) = true ∧ okM m ∧ n = 0) ∨ (hasR n (id, m, f) = true ∧ okM m ∧ n ≠ 0 ∧ (wordR n).testBit m.toNat = true) ∨ (hasR n (id, m, f) = false ∧ ¬ okM m) ∨ (hasR n (id, m, f) = false ∧ okM m ∧ n ≠ 0 ∧ (wordR n).testBit m.toNat = false) := by
        by_cases hm : okM m
        · by_cases h0 : n = 0
          · subst h0
            exact .inl ⟨hasR_zero hm, hm, rfl⟩
          · have hb : hasR n (id, m, f) = (wordR n).testBit m.toNat := hasR_bit (x := (id, m, f)) hm h0
            cases ht : (wordR n).testBit m.toNat with
            | true => exact .inr (.inl ⟨by rw [hb, ht], hm, h0, rfl⟩)
            | false => exact .inr (.inr (.inr ⟨by rw [hb, ht], hm, h0, rfl⟩))
        · exact .inr (.inr (.inl ⟨hasR_no hm, hm⟩))
      rcases hways with ⟨he, hm, h0⟩ | ⟨he, hm, h0, ht⟩ | ⟨he, hm⟩ | ⟨he, hm, h0, ht⟩
      · have g := beq_true h0
        have N := Lib.hid (ix_hit hx he)
        rw [decide_eq_true hm] at M
        clear hx hb he hm h0
        go_wp2_with fail
        refine (M.out _).mono ?_
        rintro e w' ⟨rfl, rfl⟩
        clear M
        go_wp2_with (at_builtin; refine app_int _ rfl _ _ rfl w.heap.size _ (withR n (l.take k)) (k : Int) rfl (OwnI.below HO.out ((Below.refl _ _).alloc (Nat.le_refl _) _)) wr.heap.size _ (heap_alloc_new _ _) rfl rfl (by simp; omega) (by omega) ?_
                     intro v1 w1 own1 b1
                     have O1 := Lib.hid own1
                     have B1 : Hid (Below w.heap.size w w1) := (HB.out.alloc hz _).trans b1
                     clear own1 b1)
        go_roundw
        case rel => exact ⟨k + 1, by go_num, by omega, by unfold withR; rw [N.out]; exact O1, B1⟩
        case measure => simp [intOf]; omega
      · have g := beq_false h0
        have N := Lib.hid (ix_hit hx he)
        have BT := Lib.hid (fun W => rbit_any n m.toNat (by unfold okM at hm; omega) W)
        rw [ht, show ((m.toNat : Nat) : Int) = m by unfold okM at hm; omega] at BT
        rw [decide_eq_true hm] at M
        clear hx hb he hm h0 ht
        go_wp2_with fail
        refine (M.out _).mono ?_
        rintro e w' ⟨rfl, rfl⟩
        go_wp2_with fail
        refine (BT.out _).mono ?_
        rintro e w' ⟨rfl, rfl⟩
        clear M BT
        go_wp2_with (at_builtin; refine app_int _ rfl _ _ rfl w.heap.size _ (withR n (l.take k)) (k : Int) rfl (OwnI.below HO.out ((Below.refl _ _).alloc (Nat.le_refl _) _)) wr.heap.size _ (heap_alloc_new _ _) rfl rfl (by simp; omega) (by omega) ?_
                     intro v1 w1 own1 b1
                     have O1 := Lib.hid own1
                     have B1 : Hid (Below w.heap.size w w1) := (HB.out.alloc hz _).trans b1
                     clear own1 b1)
        go_roundw
        case rel => exact ⟨k + 1, by go_num, by omega, by unfold withR; rw [N.out]; exact O1, B1⟩
        case measure => simp [intOf]; omega
      · have N := Lib.hid (ix_miss hx he)
        rw [decide_eq_false hm] at M
        clear hx hb he hm
        go_wp2_with fail
        refine (M.out _).mono ?_
        rintro e w' ⟨rfl, rfl⟩
        go_wp2_with fail
        go_roundw
        case rel => exact ⟨k + 1, by go_num, by omega, by unfold withR; rw [N.out]; exact HO, HB⟩
        case measure => simp [intOf]; omega
      · have g := beq_false h0
        have N := Lib.hid (ix_miss hx he)
        have BT := Lib.hid (fun W => rbit_any n m.toNat (by unfold okM at hm; omega) W)
        rw [ht, show ((m.toNat : Nat) : Int) = m by unfold okM at hm; omega] at BT
        rw [decide_eq_true hm] at M
        clear hx hb he hm h0 ht
        go_wp2_with fail
        refine (M.out _).mono ?_
        rintro e w' ⟨rfl, rfl⟩
        go_wp2_with fail
        refine (BT.out _).mono ?_
        rintro e w' ⟨rfl, rfl⟩
        go_wp2_with fail
        go_roundw
        case rel => exact ⟨k + 1, by go_num, by omega, by unfold withR; rw [N.out]; exact HO, HB⟩
        case measure => simp [intOf]; omega
    · have E : Hid (OwnI wr w.heap.size u5 (withR n l)) := by
        have := HO.out
        rw [List.take_of_length_le (by omega)] at this
        exact this
      have d : decide (k < l.length) = false := by rw [decide_eq_false_iff_not]; exact hlt
      clear hlt HO
      go_wp2_with fail
      go_ret
      exact ⟨_, rfl, E.out, HB.out⟩
end Go.Proofs.YtlpemdhjbpekaaaDoor
