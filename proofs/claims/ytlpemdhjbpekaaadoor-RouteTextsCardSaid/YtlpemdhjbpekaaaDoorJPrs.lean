/-
  ParseModes of package route: what the call answers; the world is as it was. Condition: a text of at most 2^40 bytes; the table of the names as its initialiser lays it.
-/
import Derived.Test.YtlpemdhjbpekaaaDoorJFmt
namespace Go.Proofs.YtlpemdhjbpekaaaDoor
open Go.RowKit

/-- The modes below m, as a word. -/
def belN (m : Nat) : Nat := diffB (lowN (m : Int)) (lowN 0)
theorem bel_lt (m : Nat) : W64 (belN m) := diff_lt (low_lt _)
theorem bel_bit (m j : Nat) (hj : j < 64) : (belN m).testBit j = decide (j < m) := by
  unfold belN
  rw [diff_bit _ _ (low_lt 0) j hj, low_bit _ j hj, low_bit 0 j hj, decide_eq_false (by omega : ¬ (j : Int) < 0), Bool.not_false, Bool.and_true, Bool.eq_iff_iff, decide_eq_true_iff, decide_eq_true_iff]
  omega
theorem bel_in {s m : Nat} (hs : s < 256) : decide (diffB s (belN m) = 0) = decide (s < 2 ^ m) := by
  rw [Bool.eq_iff_iff, decide_eq_true_iff, decide_eq_true_iff, diff_none (by unfold W64; omega) (bel_lt m), low_iff hs]
  constructor
  · intro h j hj hb
    have := h j hj hb
    rw [bel_bit m j hj] at this
    exact of_decide_eq_true this
  · intro h j hj hb
    rw [bel_bit m j hj]
    exact decide_eq_true (h j hj hb)
theorem one_mode {m : Nat} (h : m < 8) : one (m : Int) = 2 ^ m := by
  unfold one
  rw [if_pos (by omega), Int.toNat_natCast]
/-- A part of a text. -/
def partR (t : List UInt8) (a i : Nat) : List UInt8 := (t.drop a).take (i - a)
theorem part_nil (t : List UInt8) (a : Nat) : partR t a a = [] := by unfold partR; rw [Nat.sub_self, List.take_zero]
theorem part_snoc {t : List UInt8} {a i : Nat} {x : UInt8} (ha : a ≤ i) (h : t[i]? = some x) : partR t a (i + 1) = partR t a i ++ [x] := by
  unfold partR
  rw [show i + 1 - a = (i - a) + 1 by omega]
  refine take_at (t.drop a) (i - a) x ?_
  rw [List.getElem?_drop, show a + (i - a) = i by omega]
  exact h
theorem cut_three (s : Nat) (c : List UInt8) : (modeR c = -1 ∧ cutR s c = none) ∨ (∃ m : Nat, m < 8 ∧ modeR c = (m : Int) ∧ ¬ s < 2 ^ m ∧ cutR s c = none) ∨ (∃ m : Nat, m < 8 ∧ modeR c = (m : Int) ∧ s < 2 ^ m ∧ cutR s c = some (s + 2 ^ m)) := by
  rcases modeR_range c with h | ⟨h0, h8⟩
  · exact .inl ⟨h, cutR_bad h⟩
  · obtain ⟨m, hm⟩ := Int.eq_ofNat_of_zero_le h0
    by_cases hs : s < 2 ^ m
    · exact .inr (.inr ⟨m, by omega, hm, hs, cutR_good hm hs⟩)
    · exact .inr (.inl ⟨m, by omega, hm, hs, cutR_order hm hs⟩)
theorem put_small {s m : Nat} (hm : m < 8) (h : s < 2 ^ m) : s + 2 ^ m < 256 := by
  have : 2 ^ m ≤ 2 ^ 7 := Nat.pow_le_pow_right (by decide) (by omega)
  omega
theorem none_test {t : List UInt8} {s : ByteArray} (hs : str t = s) : (s.toList == [110, 111, 110, 101]) = decide (t = noneR) := by
  rw [← hs, Lib.toList_data]
  show (t == noneR) = _
  rw [Bool.eq_iff_iff]
  simp
set_option maxRecDepth 100000 in
set_option maxHeartbeats 8000000 in
theorem kprs_any (t : List UInt8) (s : ByteArray) (hs : str t = s) (hle : t.length ≤ 1000000) (w : World) (hg : GoodR w) : Calls Tryd.prog 24 #[.string s] w fun e w' => e = .returned (.tuple #[.int .i64 ((ansR (prsR t)).1), .int .i64 ((ansR (prsR t)).2)]) ∧ w = w' := by
  have HS := Lib.hid hs
  have hsz : s.size = t.length := by rw [← hs, size_str]
  have hsl : s.data.toList = t := by rw [← hs]
  by_cases hn : t = noneR
  · have g : (s.toList == [110, 111, 110, 101]) = true := by rw [none_test hs, decide_eq_true hn]
    have R : Hid (prsR t = 0) := by show _ = _; rw [hn]; rfl
    generalize prsR t = r at R ⊢
    clear hs hn hsl
    go_enter Tryd.func24, Tryd.ntmps24
    go_wp2_with fail
    go_step3
    go_wp2_with fail
    rw [Exit.noGoto_ret]
    go_ret2
    exact ⟨ret_chk (by rw [R.out]; rfl) (by rw [R.out]; rfl), rfl⟩
  have g : (s.toList == [110, 111, 110, 101]) = false := by rw [none_test hs, decide_eq_false hn]
  obtain ⟨r, hr⟩ : ∃ r, prsR t = r := ⟨_, rfl⟩
  have ST : Hid (r = optR (prsF 0 (partR t 0 0) (t.drop 0))) := by
    show _ = _
    rw [← hr, part_nil]
    exact prsR_scan hn
  rw [hr]
  have PM := Lib.hid (fun c z h W hW => parse_any c z h W hW)
  have HG := Lib.hid hg
  have HL := Lib.hid hsl
  clear hs hn hr hsl hg
  go_enter Tryd.func24, Tryd.ntmps24
  go_wp2_with fail
  go_step3
  go_wp2_with fail
  go_step3
  go_wp2_with fail
  go_loop [4, 5, 6, 7] (fun u a f i => ∃ (e a' k : Nat), u = .int .u64 (e : Int) ∧ a = .int .i64 a' ∧ f = .bool false ∧ i = .int .i64 k ∧ e < 256 ∧ a' ≤ k ∧ k ≤ t.length ∧ Hid (r = optR (prsF e (partR t a' k) (t.drop k)))) (fun _ _ _ i => t.length + 1 - (intOf i).toNat)
  case atStart => exact ⟨0, 0, 0, rfl, rfl, rfl, rfl, by decide, Nat.le_refl _, Nat.zero_le _, ST⟩
  case round =>
    clear g ST
    obtain ⟨e, a, k, rfl, rfl, rfl, rfl, he, ha, hk, hz⟩ := hrel
    obtain ⟨c, hc⟩ : ∃ c, partR t a k = c := ⟨_, rfl⟩
    obtain ⟨z, hcz, hzz, hz0⟩ := as_str c
    have sl := fun W => sl_mid s z a k ha (by omega) (by rw [HL.out, hcz, ← hc]; rfl) a k rfl rfl W
    have P := Lib.hid (PM.out c z hz0 w HG.out)
    have he64 : W64 e := by unfold W64; omega
    have hways := cut_three e c
    rw [hc] at hz
    by_cases hlt : k < t.length
    · have g1 : ((k : Int) == (s.size : Int)) = false := beq_false (by omega)
      obtain ⟨x, hx⟩ := at_lt hlt
      have k1 := fun W => at_run s k x (by rw [HL.out]; exact hx) k rfl W
      by_cases hx43 : x = 43
      · subst hx43
        have g2 : (((43 : UInt8).toNat : Int) == 43) = true := rfl
        generalize (((43 : UInt8).toNat : Nat) : Int) = n43 at k1 g2
        rcases hways with ⟨hm, hcut⟩ | ⟨j, hj, hm, hlow, hcut⟩ | ⟨j, hj, hm, hlow, hcut⟩
        · have R := Lib.hid (scan_bad hz.out hx hcut)
          rw [hm, show max (-1 : Int) 0 = 0 by rfl, show decide ((0 : Int) ≤ -1) = false by rfl] at P
          clear hx hz hc hcz hz0 hzz hm hcut hlt PM HL
          go_wp2_with fail
          refine P.out.mono ?_
          rintro e w' ⟨rfl, rfl⟩
          go_wp2_with fail
          rw [Exit.noGoto_ret]
          go_ret2
          exact ⟨ret_chk (by rw [R.out]; rfl) (by rw [R.out]; rfl), rfl⟩
        · have R := Lib.hid (scan_bad hz.out hx hcut)
          rw [hm, show max (j : Int) 0 = (j : Int) by omega, decide_eq_true (show (0 : Int) ≤ (j : Int) by omega)] at P
          have RG : Hid (∀ W, Calls Tryd.prog 27 #[.int .i64 0, .int .i64 (j : Int)] W fun e w' => e = .returned (.int .u64 ((belN j : Nat) : Int)) ∧ W = w') := fun W => range_any 0 (j : Int) W
          have WI := Lib.hid (fun W => within_any e (belN j) he64 (bel_lt j) W)
          rw [bel_in he, decide_eq_false hlow] at WI
          generalize ((belN j : Nat) : Int) = bn at RG WI
          clear hx hz hc hcz hz0 hzz hm hcut hlt PM HL hlow
          go_wp2_with fail
          refine P.out.mono ?_
          rintro e w' ⟨rfl, rfl⟩
          go_wp2_with fail
          refine (RG.out _).mono ?_
          rintro e w' ⟨rfl, rfl⟩
          go_wp2_with fail
          refine (WI.out _).mono ?_
          rintro e w' ⟨rfl, rfl⟩
          go_wp2_with fail
          rw [Exit.noGoto_ret]
          go_ret2
          exact ⟨ret_chk (by rw [R.out]; rfl) (by rw [R.out]; rfl), rfl⟩
        · have N := Lib.hid (scan_cut hz.out hx hcut)
          rw [hm, show max (j : Int) 0 = (j : Int) by omega, decide_eq_true (show (0 : Int) ≤ (j : Int) by omega)] at P
          have RG : Hid (∀ W, Calls Tryd.prog 27 #[.int .i64 0, .int .i64 (j : Int)] W fun e w' => e = .returned (.int .u64 ((belN j : Nat) : Int)) ∧ W = w') := fun W => range_any 0 (j : Int) W
          have WI := Lib.hid (fun W => within_any e (belN j) he64 (bel_lt j) W)
          rw [bel_in he, decide_eq_true hlow] at WI
          have WT := Lib.hid (fun W => with_any e he64 (j : Int) W)
          rw [one_mode hj, put_low hlow] at WT
          have h256 := put_small hj hlow
          generalize ((belN j : Nat) : Int) = bn at RG WI
          generalize e + 2 ^ j = u at N WT h256
          clear hx hz hc hcz hz0 hzz hm hcut hlow
          go_wp2_with fail
          refine P.out.mono ?_
          rintro e w' ⟨rfl, rfl⟩
          go_wp2_with fail
          refine (RG.out _).mono ?_
          rintro e w' ⟨rfl, rfl⟩
          go_wp2_with fail
          refine (WI.out _).mono ?_
          rintro e w' ⟨rfl, rfl⟩
          go_wp2_with fail
          refine (WT.out _).mono ?_
          rintro e w' ⟨rfl, rfl⟩
          go_wp2_with fail
          go_round
          case rel => exact ⟨u, k + 1, k + 1, rfl, by go_num, rfl, by go_num, h256, Nat.le_refl _, by omega, by rw [part_nil]; exact N⟩
          case measure => simp [intOf]; omega
      · have g2 : ((x.toNat : Int) == 43) = false := beq_false fun h => hx43 (UInt8.toNat_inj.1 (by show x.toNat = 43; omega))
        have N : Hid (r = optR (prsF e (partR t a (k + 1)) (t.drop (k + 1)))) := by
          show _ = _
          rw [part_snoc ha hx, hc]
          exact scan_byte hz.out hx hx43
        generalize ((x.toNat : Nat) : Int) = n43 at k1 g2
        clear hx hz hc hcz hz0 hzz hx43 hways P sl
        go_wp2_with fail
        go_round
        case rel => exact ⟨e, a, k + 1, rfl, rfl, rfl, by go_num, he, by omega, by omega, N⟩
        case measure => simp [intOf]; omega
    · obtain rfl : k = t.length := by omega
      have g1 : ((t.length : Int) == (s.size : Int)) = true := beq_true (by omega)
      have E := Lib.hid (scan_end hz.out (Nat.le_refl _))
      rcases hways with ⟨hm, hcut⟩ | ⟨j, hj, hm, hlow, hcut⟩ | ⟨j, hj, hm, hlow, hcut⟩
      · have R : Hid (r = -1) := by show _ = _; rw [E.out, hcut]; rfl
        rw [hm, show max (-1 : Int) 0 = 0 by rfl, show decide ((0 : Int) ≤ -1) = false by rfl] at P
        clear hz hc hcz hz0 hzz hm hcut hlt PM HL E
        go_wp2_with fail
        refine P.out.mono ?_
        rintro e w' ⟨rfl, rfl⟩
        go_wp2_with fail
        rw [Exit.noGoto_ret]
        go_ret2
        exact ⟨ret_chk (by rw [R.out]; rfl) (by rw [R.out]; rfl), rfl⟩
      · have R : Hid (r = -1) := by show _ = _; rw [E.out, hcut]; rfl
        rw [hm, show max (j : Int) 0 = (j : Int) by omega, decide_eq_true (show (0 : Int) ≤ (j : Int) by omega)] at P
        have RG : Hid (∀ W, Calls Tryd.prog 27 #[.int .i64 0, .int .i64 (j : Int)] W fun e w' => e = .returned (.int .u64 ((belN j : Nat) : Int)) ∧ W = w') := fun W => range_any 0 (j : Int) W
        have WI := Lib.hid (fun W => within_any e (belN j) he64 (bel_lt j) W)
        rw [bel_in he, decide_eq_false hlow] at WI
        generalize ((belN j : Nat) : Int) = bn at RG WI
        clear hz hc hcz hz0 hzz hm hcut hlt PM HL hlow E
        go_wp2_with fail
        refine P.out.mono ?_
        rintro e w' ⟨rfl, rfl⟩
        go_wp2_with fail
        refine (RG.out _).mono ?_
        rintro e w' ⟨rfl, rfl⟩
        go_wp2_with fail
        refine (WI.out _).mono ?_
        rintro e w' ⟨rfl, rfl⟩
        go_wp2_with fail
        rw [Exit.noGoto_ret]
        go_ret2
        exact ⟨ret_chk (by rw [R.out]; rfl) (by rw [R.out]; rfl), rfl⟩
      · have R : Hid (r = ((e + 2 ^ j : Nat) : Int)) := by show _ = _; rw [E.out, hcut]; rfl
        rw [hm, show max (j : Int) 0 = (j : Int) by omega, decide_eq_true (show (0 : Int) ≤ (j : Int) by omega)] at P
        have RG : Hid (∀ W, Calls Tryd.prog 27 #[.int .i64 0, .int .i64 (j : Int)] W fun e w' => e = .returned (.int .u64 ((belN j : Nat) : Int)) ∧ W = w') := fun W => range_any 0 (j : Int) W
        have WI := Lib.hid (fun W => within_any e (belN j) he64 (bel_lt j) W)
        rw [bel_in he, decide_eq_true hlow] at WI
        have WT := Lib.hid (fun W => with_any e he64 (j : Int) W)
        rw [one_mode hj, put_low hlow] at WT
        have h256 := put_small hj hlow
        generalize ((belN j : Nat) : Int) = bn at RG WI
        generalize e + 2 ^ j = u at R WT h256
        have ei : IntKind.i64.wrap (u : Int) = (u : Int) := IntWalk.i64_in _ (by omega)
        clear hz hc hcz hz0 hzz hm hcut hlow E
        go_wp2_with fail
        refine P.out.mono ?_
        rintro e w' ⟨rfl, rfl⟩
        go_wp2_with fail
        refine (RG.out _).mono ?_
        rintro e w' ⟨rfl, rfl⟩
        go_wp2_with fail
        refine (WI.out _).mono ?_
        rintro e w' ⟨rfl, rfl⟩
        go_wp2_with fail
        refine (WT.out _).mono ?_
        rintro e w' ⟨rfl, rfl⟩
        go_wp2_with fail
        rw [Exit.noGoto_ret]
        go_ret2
        exact ⟨ret_chk (by rw [R.out, ansR_good]) (by rw [R.out, ansR_good]), rfl⟩
end Go.Proofs.YtlpemdhjbpekaaaDoor
