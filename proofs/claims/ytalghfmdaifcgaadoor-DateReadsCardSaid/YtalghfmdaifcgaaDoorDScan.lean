/-
  The functions of package date and of its reference that look at a text byte by byte: what each call answers; nothing that existed before the call has changed behind it. Condition: the lengths that each theorem names.
-/
import Derived.Test.YtalghfmdaifcgaaDoorDText
import Derived.Test.YtalghfmdaifcgaaDoorRParse
namespace Go.Proofs.YtalghfmdaifcgaaDoor
open Go.RowKit

/-- What may stand at place i of a day's text. -/
def okD (i : Nat) (c : UInt8) : Bool := if i = 4 ∨ i = 7 then c == 45 else dig c
theorem fitsD_iff (l : List UInt8) : fits dayP l = true ↔ l.length = 10 ∧ ∀ (k : Nat) c, l[k]? = some c → okD k c = true := by
  rw [fits_iff]
  constructor
  · rintro ⟨h, hf⟩
    have h : l.length = 10 := h
    refine ⟨h, fun k c hc => ?_⟩
    have hk : k < 10 := by have := (List.getElem?_eq_some_iff.1 hc).1; omega
    unfold okD
    match k, hk with
    | 0, _ | 1, _ | 2, _ | 3, _ | 5, _ | 6, _ | 8, _ | 9, _ => have := hf _ 48 c rfl hc; rw [if_neg (by decide)]; rwa [okP_digit] at this
    | 4, _ | 7, _ => have := hf _ 45 c rfl hc; rw [if_pos (by decide)]; rwa [okP_other _ _ (by decide)] at this
  · rintro ⟨h, hf⟩
    refine ⟨h, fun k a c ha hc => ?_⟩
    have hk : k < 10 := by have := (List.getElem?_eq_some_iff.1 hc).1; omega
    have ho := hf k c hc
    unfold okD at ho
    match k, hk, ha with
    | 0, _, ha | 1, _, ha | 2, _, ha | 3, _, ha | 5, _, ha | 6, _, ha | 8, _, ha | 9, _, ha => cases ha; rw [okP_digit]; rwa [if_neg (by decide)] at ho
    | 4, _, ha | 7, _, ha => cases ha; rw [okP_other _ _ (by decide)]; rwa [if_pos (by decide)] at ho
theorem okD_dash (k : Nat) (c : UInt8) (hk : k = 4 ∨ k = 7) : okD k c = true ↔ c.toNat = 45 := by
  unfold okD
  rw [if_pos hk, beq_iff_eq]
  exact ⟨fun h => by rw [h]; rfl, fun h => UInt8.toNat_inj.1 h⟩
theorem okD_digit (k : Nat) (c : UInt8) (hk : ¬ (k = 4 ∨ k = 7)) : okD k c = true ↔ 48 ≤ c.toNat ∧ c.toNat ≤ 57 := by
  unfold okD
  rw [if_neg hk, dig_iff]
theorem valN_small (s : ByteArray) (pos : Nat) (hp : pos ≤ s.size) (hl : s.size ≤ 6) (hd : digs s.data.toList = true) : valN (s.data.toList.take pos) < 1000000 := by
  have h1 := valN_lt _ (digs_take _ pos hd)
  have h2 : (s.data.toList.take pos).length ≤ 6 := Nat.le_trans (List.length_take_le _ _) (by omega)
  exact Nat.lt_of_lt_of_le h1 (Nat.pow_le_pow_right (by decide) h2)

theorem dvalue_any (s : ByteArray) (hd : digs s.data.toList = true) (hl : s.size ≤ 6) (w : World) :
    Calls Tryd.prog 47 #[.string s] w fun e w' => e = .returned (.int .i64 (valN s.data.toList)) ∧ w = w' := by
  have HD := Lib.hid hd
  clear hd
  go_enter Tryd.func47, Tryd.ntmps47
  go_wp2
  go_loop [3, 7] (fun n i => ∃ k : Nat, k ≤ s.size ∧ n = .int .i64 (valN (s.data.toList.take k)) ∧ i = .int .i64 k) (fun _ i => s.size - (intOf i).toNat)
  case atStart => exact ⟨0, by omega, rfl, rfl⟩
  case round =>
    obtain ⟨k, hk, rfl, rfl⟩ := hrel
    by_cases hp : k < s.size
    · have hc := digs_at s k hp HD.out
      have hv := valN_small s k hk hl HD.out
      have hs := Lib.hid (valN_snoc (s.data.toList.take k) s[k])
      have ht := Lib.hid (take_snoc s k hp)
      have kk := run_at s k hp
      go_wp2_with fail
      go_round
      case rel => exact ⟨k + 1, by omega, by rw [ht.out, hs.out]; go_num, by go_num⟩
      case measure => simp [intOf]; omega
    · have he := Lib.hid (List.take_of_length_le (l := s.data.toList) (i := k) (by simpa using hp))
      go_wp2_with fail
      go_ret
      exact ⟨by rw [he.out]; rfl, rfl⟩
theorem rdvalue_any (s : ByteArray) (hd : digs s.data.toList = true) (hl : s.size ≤ 4) (w : World) :
    Calls Tryd.prog 49 #[.string s] w fun e w' => e = .returned (.int .i64 (valN s.data.toList)) ∧ w = w' := by
  have HD := Lib.hid hd
  clear hd
  go_enter Tryd.func49, Tryd.ntmps49
  go_wp2
  go_loop [3, 4] (fun n i => ∃ k : Nat, k ≤ s.size ∧ n = .int .i64 (valN (s.data.toList.take k)) ∧ i = .int .i64 k) (fun _ i => s.size - (intOf i).toNat)
  case atStart => exact ⟨0, by omega, rfl, rfl⟩
  case round =>
    obtain ⟨k, hk, rfl, rfl⟩ := hrel
    by_cases hp : k < s.size
    · have hc := digs_at s k hp HD.out
      have hv := valN_small s k hk (by omega) HD.out
      have hs := Lib.hid (valN_snoc (s.data.toList.take k) s[k])
      have ht := Lib.hid (take_snoc s k hp)
      have kk := run_at s k hp
      have k4 : (k : Int) < 4 := by omega
      go_wp2_with fail
      go_round
      case rel => exact ⟨k + 1, by omega, by rw [ht.out, hs.out]; go_num, by go_num⟩
      case measure => simp [intOf]; omega
    · have he := Lib.hid (List.take_of_length_le (l := s.data.toList) (i := k) (by simpa using hp))
      go_wp2_with fail
      go_ret
      exact ⟨by rw [he.out]; rfl, rfl⟩

set_option maxHeartbeats 400000 in
theorem hasDay_any (s : ByteArray) (w : World) :
    Calls Tryd.prog 46 #[.string s] w fun e w' => e = .returned (.bool (fits dayP s.data.toList)) ∧ w = w' := by
  by_cases h10 : s.size = 10
  · have n10 : ((s.size : Int) != 10) = false := by rw [h10]; rfl
    have H10 := Lib.hid h10
    have HF := Lib.hid (fitsD_iff s.data.toList)
    have hs : s.size ≤ 10 := by omega
    clear h10
    go_enter Tryd.func46, Tryd.ntmps46
    go_wp2_with fail
    go_loop [9] (fun i => ∃ k : Nat, k ≤ s.size ∧ i = .int .i64 k ∧ Hid (∀ j c, j < k → s.data.toList[j]? = some c → okD j c = true)) (fun i => s.size - (intOf i).toNat)
    case atStart => exact ⟨0, by omega, rfl, Lib.hid (fun j c hj => absurd hj (Nat.not_lt_zero _))⟩
    case round =>
      clear n10
      obtain ⟨k, hk, rfl, ht⟩ := hrel
      by_cases hlt : k < s.size
      · have kk := run_at s k hlt
        cases hx : okD k s[k] with
        | true =>
          have hst : Hid (∀ j c, j < k + 1 → s.data.toList[j]? = some c → okD j c = true) := by
            intro j c hj hl
            by_cases hjk : j < k
            · exact ht.out j c hjk hl
            · obtain rfl : j = k := by omega
              rw [list_at s j hlt] at hl
              cases hl
              exact hx
          by_cases h47 : k = 4 ∨ k = 7
          · have hc := (okD_dash k _ h47).1 hx
            have b3 : (((s[k].toNat : Nat) : Int) != 45) = false := by rw [hc]; rfl
            clear hx hc
            by_cases h4 : k = 4
            · have b4 : ((k : Int) == 4) = true := beq_yes (by omega)
              have HH := Lib.hid h4
              clear h4 h47
              go_wp2_with fail
              go_round
              case rel => exact ⟨k + 1, by omega, by go_num, hst⟩
              case measure => simp [intOf]; omega
            · have b4 : ((k : Int) == 4) = false := beq_no (by omega)
              have b7 : ((k : Int) == 7) = true := beq_yes (by omega)
              clear h4 h47
              go_wp2_with fail
              go_round
              case rel => exact ⟨k + 1, by omega, by go_num, hst⟩
              case measure => simp [intOf]; omega
          · have hc := (okD_digit k _ h47).1 hx
            have b4 : ((k : Int) == 4) = false := beq_no (by omega)
            have b7 : ((k : Int) == 7) = false := beq_no (by omega)
            have c1 : ¬ ((s[k].toNat : Nat) : Int) < 48 := by omega
            have c2 : ¬ (57 : Int) < ((s[k].toNat : Nat) : Int) := by omega
            clear hx h47
            go_wp2_with fail
            go_round
            case rel => exact ⟨k + 1, by omega, by go_num, hst⟩
            case measure => simp [intOf]; omega
        | false =>
          have hv : fits dayP s.data.toList = false := by
            cases hv : fits dayP s.data.toList with
            | false => rfl
            | true => rw [(HF.out.1 hv).2 k _ (list_at s k hlt)] at hx; cases hx
          have HV := Lib.hid hv
          clear hv
          by_cases h47 : k = 4 ∨ k = 7
          · have b3 : (((s[k].toNat : Nat) : Int) != 45) = true := bne_true (by
              intro hc
              rw [(okD_dash k _ h47).2 (by omega)] at hx
              cases hx)
            clear hx
            by_cases h4 : k = 4
            · have b4 : ((k : Int) == 4) = true := beq_yes (by omega)
              have HH := Lib.hid h4
              clear h4 h47
              go_wp2_with fail
              go_ret
              exact ⟨ret_bool HV.out.symm, rfl⟩
            · have b4 : ((k : Int) == 4) = false := beq_no (by omega)
              have b7 : ((k : Int) == 7) = true := beq_yes (by omega)
              clear h4 h47
              go_wp2_with fail
              go_ret
              exact ⟨ret_bool HV.out.symm, rfl⟩
          · have hc : ¬ (48 ≤ s[k].toNat ∧ s[k].toNat ≤ 57) := by
              intro hc
              rw [(okD_digit k _ h47).2 hc] at hx
              cases hx
            have b4 : ((k : Int) == 4) = false := beq_no (by omega)
            have b7 : ((k : Int) == 7) = false := beq_no (by omega)
            clear hx h47
            by_cases c1 : ((s[k].toNat : Nat) : Int) < 48
            · clear hc
              go_wp2_with fail
              go_ret
              exact ⟨ret_bool HV.out.symm, rfl⟩
            · have c2 : (57 : Int) < ((s[k].toNat : Nat) : Int) := by omega
              clear hc
              go_wp2_with fail
              go_ret
              exact ⟨ret_bool HV.out.symm, rfl⟩
      · have hv := HF.out.2 ⟨H10.out, fun j c hl => ht.out j c (by have := (List.getElem?_eq_some_iff.1 hl).1; have h9 : j < s.size := this; omega) hl⟩
        have HV := Lib.hid hv
        clear hv
        go_wp2_with fail
        go_ret
        exact ⟨ret_bool HV.out.symm, rfl⟩
  · have n10 : ((s.size : Int) != 10) = true := bne_true (by omega)
    have hv := Lib.hid (fits_short dayP s.data.toList h10)
    clear h10
    go_enter Tryd.func46, Tryd.ntmps46
    go_wp2_with fail
    go_ret
    exact ⟨ret_bool hv.out.symm, rfl⟩
end Go.Proofs.YtalghfmdaifcgaaDoor
