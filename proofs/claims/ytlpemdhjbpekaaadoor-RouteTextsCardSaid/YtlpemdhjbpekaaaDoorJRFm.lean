/-
  FormatModes and ParseModes of the reference: what each call answers; nothing that existed before the call has changed behind it. Condition: none.
-/
import Derived.Test.YtlpemdhjbpekaaaDoorJBit
namespace Go.Proofs.YtlpemdhjbpekaaaDoor
open Go.RowKit

theorem str_size_ne {l : List UInt8} : (str l).size = 0 ↔ l = [] := by rw [size_str, List.length_eq_zero_iff]
set_option maxRecDepth 100000 in
set_option maxHeartbeats 4000000 in
theorem rfmt_any (n : Int) (w : World) : Calls Tryd.prog 23 #[.int .i64 n] w fun e w' => e = .returned (.tuple #[.string (str (fmtR n).1), .int .i64 ((fmtR n).2)]) ∧ Below w.heap.size w w' := by
  by_cases hf : n < 0 ∨ 255 < n
  · rw [fmtR_far hf]
    by_cases h0 : n < 0
    · clear hf
      go_enter Tryd.func23, Tryd.ntmps23
      go_wp2_with fail
      go_ret2
      exact ⟨rfl, Below.refl _ _⟩
    · have d : decide (n < 0) = false := decide_eq_false h0
      have g : 255 < n := by omega
      clear hf h0
      go_enter Tryd.func23, Tryd.ntmps23
      go_wp2_with fail
      go_ret2
      exact ⟨rfl, Below.refl _ _⟩
  obtain ⟨k, rfl⟩ := Int.eq_ofNat_of_zero_le (show 0 ≤ n by omega)
  have hk : k < 256 := by omega
  rw [fmtR_in hk]
  have d0 : decide ((k : Int) < 0) = false := by rw [decide_eq_false_iff_not]; omega
  have d1 : decide (255 < (k : Int)) = false := by rw [decide_eq_false_iff_not]; omega
  have BT := Lib.hid (fun i hi W => rbit_any (k : Int) i hi W)
  rw [show wordR (k : Int) = k by unfold wordR; omega] at BT
  obtain ⟨r, hr⟩ : ∃ r, textR k = r := ⟨_, rfl⟩
  rw [hr]
  have HR := Lib.hid hr
  clear hf hr
  go_enter Tryd.func23, Tryd.ntmps23
  go_wp2_with fail
  go_loopw [4, 5] (fun u i wr => ∃ m : Nat, u = .string (str (txF k m)) ∧ i = .int .i64 m ∧ m ≤ 8 ∧ Hid (Below w.heap.size w wr)) (fun _ i _ => 8 - (intOf i).toNat)
  case atStart => exact ⟨0, rfl, rfl, Nat.zero_le _, Lib.hid (Below.refl _ _)⟩
  case round =>
    clear d0 d1
    obtain ⟨m, rfl, rfl, hm, HB⟩ := hrel
    by_cases hlt : m < 8
    · have gm : (m : Int) < 8 := by omega
      have C := Lib.hid (fun W => BT.out m hlt W)
      cases ht : k.testBit m with
      | false =>
        have N := Lib.hid (txF_no ht)
        rw [ht] at C
        clear ht
        go_wp2_with fail
        refine (C.out _).mono ?_
        rintro e w' ⟨rfl, rfl⟩
        go_wp2_with fail
        go_roundw
        case rel => exact ⟨m + 1, by rw [N.out], by go_num, by omega, HB⟩
        case measure => simp [intOf]; omega
      | true =>
        have N := Lib.hid (txF_yes ht)
        have hle := txF_le k m hm
        have hnl := (nmR_len m hlt).2
        rw [ht] at C
        obtain ⟨nm, hnm⟩ : ∃ nm, str (nmR m) = nm := ⟨_, rfl⟩
        have hns : nm.size ≤ 9 := by rw [← hnm, size_str]; exact hnl
        clear ht
        by_cases h0 : txF k m = []
        · have N2 : Hid (str (txF k (m + 1)) = nm) := by
            show _ = _
            rw [N.out, ← hnm]
            unfold catR
            rw [if_pos h0]
          rw [h0]
          have em : (str ([] : List UInt8)).toList.isEmpty = true := by rw [nil_iff, decide_eq_true_iff, str_size_ne]
          have ea : str [] ++ nm = nm := by rw [← hnm, str_app]; rfl
          have es : (str ([] : List UInt8)).size + nm.size ≤ 100 := by rw [size_str]; simp; omega
          obtain ⟨z, hz⟩ : ∃ z, str ([] : List UInt8) = z := ⟨_, rfl⟩
          rw [hz] at em ea es ⊢
          have HN := Lib.hid hnm
          clear N h0 hle hnl hnm hz
          go_wp2_with fail
          refine (C.out _).mono ?_
          rintro e w' ⟨rfl, rfl⟩
          clear C
          go_wp2_with fail
          refine (rnames_any wr).mono ?_
          rintro e w1 ⟨rfl, c1, b1⟩
          have c := c1 m hlt
          rw [HN.out] at c
          have B1 := Lib.hid (HB.out.trans (b1.mono HB.out.size))
          clear c1 b1 HB HN
          go_wp2_with fail
          go_roundw
          case rel => exact ⟨m + 1, by rw [N2.out], by go_num, by omega, B1⟩
          case measure => simp [intOf]; omega
        · have N2 : Hid (str (txF k (m + 1)) = str (txF k m) ++ ⟨#[43]⟩ ++ nm) := by
            show _ = _
            rw [N.out, ← hnm, show (⟨#[43]⟩ : ByteArray) = str [43] by rfl, str_app, str_app]
            unfold catR
            rw [if_neg h0]
            simp
          have em : (str (txF k m)).toList.isEmpty = false := by rw [nil_iff, decide_eq_false_iff_not, str_size_ne]; exact h0
          have es : (str (txF k m)).size ≤ 80 := by rw [size_str]; omega
          obtain ⟨z, hz⟩ : ∃ z, str (txF k m) = z := ⟨_, rfl⟩
          rw [hz] at em es N2 ⊢
          have e1 : (⟨#[43]⟩ : ByteArray).size = 1 := rfl
          have es1 : z.size + (⟨#[43]⟩ : ByteArray).size ≤ 100 := by rw [e1]; omega
          have es2 : (z ++ ⟨#[43]⟩).size + nm.size ≤ 100 := by rw [ByteArray.size_append, e1]; omega
          have HN := Lib.hid hnm
          clear N h0 hle hnl hnm hz
          go_wp2_with fail
          refine (C.out _).mono ?_
          rintro e w' ⟨rfl, rfl⟩
          clear C
          go_wp2_with fail
          refine (rnames_any wr).mono ?_
          rintro e w1 ⟨rfl, c1, b1⟩
          have c := c1 m hlt
          rw [HN.out] at c
          have B1 := Lib.hid (HB.out.trans (b1.mono HB.out.size))
          clear c1 b1 HB HN
          go_wp2_with fail
          go_roundw
          case rel => exact ⟨m + 1, by rw [N2.out], by go_num, by omega, B1⟩
          case measure => simp [intOf]; omega
    · obtain rfl : m = 8 := by omega
      have d : decide (((8 : Nat) : Int) < 8) = false := rfl
      by_cases h0 : txF k 8 = []
      · have R : Hid (r = noneR) := by show _ = _; rw [← HR.out, textR_none h0]
        rw [h0]
        have em : (str ([] : List UInt8)).toList.isEmpty = true := by rw [nil_iff, decide_eq_true_iff, str_size_ne]
        obtain ⟨z, hz⟩ : ∃ z, str ([] : List UInt8) = z := ⟨_, rfl⟩
        rw [hz] at em ⊢
        clear hlt hm h0 HR
        go_wp2_with fail
        go_ret2
        exact ⟨ret_txt (by rw [R.out]; rfl) rfl, HB.out⟩
      · have R : Hid (r = txF k 8) := by show _ = _; rw [← HR.out, textR_some h0]
        have em : (str (txF k 8)).toList.isEmpty = false := by rw [nil_iff, decide_eq_false_iff_not, str_size_ne]; exact h0
        rw [← R.out] at em ⊢
        obtain ⟨z, hz⟩ : ∃ z, str r = z := ⟨_, rfl⟩
        rw [hz] at em ⊢
        have HZ := Lib.hid hz
        clear hlt hm h0 HR R hz
        go_wp2_with fail
        go_ret2
        exact ⟨ret_txt HZ.out.symm rfl, HB.out⟩
set_option maxRecDepth 100000 in
set_option maxHeartbeats 4000000 in
theorem rprs_any (t : List UInt8) (s : ByteArray) (hs : str t = s) (w : World) : Calls Tryd.prog 25 #[.string s] w fun e w' => e = .returned (.tuple #[.int .i64 ((ansR (prsR t)).1), .int .i64 ((ansR (prsR t)).2)]) ∧ Below w.heap.size w w' := by
  have HS := Lib.hid hs
  obtain ⟨r, hr⟩ : ∃ r, prsR t = r := ⟨_, rfl⟩
  rw [hr]
  have HR := Lib.hid hr
  clear hs hr
  go_enter Tryd.func25, Tryd.ntmps25
  go_wp2_with fail
  go_loopw [4] (fun i wr => ∃ n : Nat, i = .int .i64 n ∧ n ≤ 256 ∧ Hid (∀ j : Nat, j < n → textR j ≠ t) ∧ Hid (Below w.heap.size w wr)) (fun i _ => 256 - (intOf i).toNat)
  case atStart => exact ⟨0, rfl, Nat.zero_le _, Lib.hid (fun j hj => absurd hj (Nat.not_lt_zero _)), Lib.hid (Below.refl _ _)⟩
  case round =>
    obtain ⟨n, rfl, hn, hall, HB⟩ := hrel
    by_cases hlt : n < 256
    · have gn : (n : Int) < 256 := by omega
      have F := Lib.hid (fun W => rfmt_any (n : Int) W)
      rw [fmtR_in hlt] at F
      obtain ⟨z, hz⟩ : ∃ z, str (textR n) = z := ⟨_, rfl⟩
      simp only [hz] at F
      by_cases he : textR n = t
      · have g := bytes_eq (a := z) (b := s) (by rw [← hz, ← HS.out, he])
        have R : Hid (r = (n : Int)) := by show _ = _; rw [← HR.out, prsR_first hlt he]
        clear hall he hz HR HS
        go_wp2_with fail
        refine (F.out _).mono ?_
        rintro e w1 ⟨rfl, b1⟩
        have B1 := Lib.hid (HB.out.trans (b1.mono HB.out.size))
        clear b1 HB F
        go_wp2_with fail
        go_ret2
        exact ⟨ret_chk (by rw [R.out, ansR_good]) (by rw [R.out, ansR_good]), B1.out⟩
      · have g := bytes_ne (str_ne hz HS.out he)
        have N : Hid (∀ j : Nat, j < n + 1 → textR j ≠ t) := by
          intro j hj
          by_cases e : j = n
          · rw [e]; exact he
          · exact hall.out j (by omega)
        clear hall he hz
        go_wp2_with fail
        refine (F.out _).mono ?_
        rintro e w1 ⟨rfl, b1⟩
        have B1 := Lib.hid (HB.out.trans (b1.mono HB.out.size))
        clear b1 HB F
        go_wp2_with fail
        go_roundw
        case rel => exact ⟨n + 1, by go_num, by omega, N, B1⟩
        case measure => simp [intOf]; omega
    · have R : Hid (r = -1) := by show _ = _; rw [← HR.out, prsR_none fun n' hn' => hall.out n' (by omega)]
      have d : decide ((n : Int) < 256) = false := by rw [decide_eq_false_iff_not]; omega
      clear hall hlt HR HS
      go_wp2_with fail
      go_ret2
      exact ⟨ret_chk (by rw [R.out]; rfl) (by rw [R.out]; rfl), HB.out⟩
end Go.Proofs.YtlpemdhjbpekaaaDoor
