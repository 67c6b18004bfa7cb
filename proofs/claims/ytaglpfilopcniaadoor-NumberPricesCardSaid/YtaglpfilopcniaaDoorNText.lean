/-
  The functions of package number and of its reference that look at digits, and the reference's decimal form: what each call answers; the world is as it was. Condition: the lengths that each theorem names.
-/
import Derived.Test.YtaglpfilopcniaaDoorNInts
import Derived.Test.YtaglpfilopcniaaDoorShelf
namespace Go.Proofs.YtaglpfilopcniaaDoor
open Go.RowKit

theorem allDigits_yes (s : ByteArray) (hs : s.size ≤ 4096) (hd : digs s.data.toList = true) (w : World) :
    Calls Tryd.prog 39 #[.string s] w fun e w' => e = .returned (.bool true) ∧ w = w' := by
  have HD := Lib.hid hd
  clear hd
  go_enter Tryd.func39, Tryd.ntmps39
  go_wp2_with fail
  go_loop [6] (fun i => ∃ k : Nat, k ≤ s.size ∧ i = .int .i64 k) (fun i => s.size - (intOf i).toNat)
  case atStart => exact ⟨0, by omega, rfl⟩
  case round =>
    obtain ⟨k, hk, rfl⟩ := hrel
    by_cases hlt : k < s.size
    · have kk := run_at s k hlt
      have hc := digs_at s k hlt HD.out
      go_wp2_with fail
      go_round
      case rel => exact ⟨k + 1, by omega, by go_num⟩
      case measure => simp [intOf]; omega
    · go_wp2_with fail
      go_ret
      exact ⟨rfl, rfl⟩
theorem allDigits_no (s : ByteArray) (hs : s.size ≤ 4096) (hd : digs s.data.toList = false) (w : World) :
    Calls Tryd.prog 39 #[.string s] w fun e w' => e = .returned (.bool false) ∧ w = w' := by
  have HD := Lib.hid hd
  clear hd
  go_enter Tryd.func39, Tryd.ntmps39
  go_wp2_with fail
  go_loop [6] (fun i => ∃ k : Nat, k ≤ s.size ∧ i = .int .i64 k ∧ Hid (digs (s.data.toList.take k) = true)) (fun i => s.size - (intOf i).toNat)
  case atStart => exact ⟨0, by omega, rfl, Lib.hid rfl⟩
  case round =>
    obtain ⟨k, hk, rfl, ht⟩ := hrel
    by_cases hlt : k < s.size
    · have kk := run_at s k hlt
      by_cases hc : 48 ≤ s[k].toNat ∧ s[k].toNat ≤ 57
      · have hst := Lib.hid (digs_step s k hlt ht.out hc)
        go_wp2_with fail
        go_round
        case rel => exact ⟨k + 1, by omega, by go_num, hst⟩
        case measure => simp [intOf]; omega
      · by_cases h1 : s[k].toNat < 48
        · go_wp2_with fail
          go_ret
          exact ⟨rfl, rfl⟩
        · have h2 : 57 < s[k].toNat := by omega
          go_wp2_with fail
          go_ret
          exact ⟨rfl, rfl⟩
    · have hf := digs_of_take s k hlt ht.out
      rw [HD.out] at hf
      cases hf
theorem allDigits_any (s : ByteArray) (hs : s.size ≤ 4096) (w : World) : Calls Tryd.prog 39 #[.string s] w fun e w' => e = .returned (.bool (digs s.data.toList)) ∧ w = w' := by
  cases h : digs s.data.toList with
  | true => exact allDigits_yes s hs h w
  | false => exact allDigits_no s hs h w

theorem str_of (s : ByteArray) (l : List UInt8) (h : s.data.toList = l) : s = str l := by
  apply ByteArray.ext
  rw [← h]
theorem ne_of (l m : List UInt8) (h : l ≠ m) : ((str l).toList == m) = false := by rw [ByteArray.toList_mk, beq_eq_false_iff_ne]; exact h
theorem nil_of (l : List UInt8) (h : l ≠ []) : (str l).toList.isEmpty = false := by
  rw [ByteArray.toList_mk]
  cases l with
  | nil => exact absurd rfl h
  | cons _ _ => rfl
theorem natural_48 (w : World) : Calls Tryd.prog 31 #[.string (str [48])] w fun e w' => e = .returned (.bool true) ∧ w = w' := by
  go_enter Tryd.func31, Tryd.ntmps31
  go_wp2_with fail
  go_ret
  exact ⟨rfl, rfl⟩
theorem natural_nil (w : World) : Calls Tryd.prog 31 #[.string (str [])] w fun e w' => e = .returned (.bool false) ∧ w = w' := by
  go_enter Tryd.func31, Tryd.ntmps31
  go_wp2_with fail
  go_ret
  exact ⟨rfl, rfl⟩
theorem natural_lead (s : ByteArray) (h1 : (s.toList == [48]) = false) (h2 : s.toList.isEmpty = false) (h0 : 0 < s.size) (h3 : ((s[0].toNat : Int) != 48) = false) (w : World) : Calls Tryd.prog 31 #[.string s] w fun e w' => e = .returned (.bool false) ∧ w = w' := by
  have k0 : ∀ W, (Instr.index 9 (.string s) (.int .i64 0)).run Tryd.prog W = .ok (.int .u8 s[0].toNat) W := run_at s 0 h0
  go_enter Tryd.func31, Tryd.ntmps31
  go_wp2_with fail
  go_ret
  exact ⟨rfl, rfl⟩
theorem natural_rest (s : ByteArray) (hs : s.size ≤ 4096) (h1 : (s.toList == [48]) = false) (h2 : s.toList.isEmpty = false) (h0 : 0 < s.size) (h3 : ((s[0].toNat : Int) != 48) = true) (w : World) : Calls Tryd.prog 31 #[.string s] w fun e w' => e = .returned (.bool (digs s.data.toList)) ∧ w = w' := by
  have k0 : ∀ W, (Instr.index 9 (.string s) (.int .i64 0)).run Tryd.prog W = .ok (.int .u8 s[0].toNat) W := run_at s 0 h0
  cases hd : digs s.data.toList with
  | true =>
    have C := Lib.hid (fun w => allDigits_yes s hs hd w)
    clear hd
    go_enter Tryd.func31, Tryd.ntmps31
    go_wp2_with (go_at_call 39; refine (C.out _).mono ?_; rintro e w' ⟨rfl, rfl⟩)
    go_ret
    exact ⟨rfl, rfl⟩
  | false =>
    have C := Lib.hid (fun w => allDigits_no s hs hd w)
    clear hd
    go_enter Tryd.func31, Tryd.ntmps31
    go_wp2_with (go_at_call 39; refine (C.out _).mono ?_; rintro e w' ⟨rfl, rfl⟩)
    go_ret
    exact ⟨rfl, rfl⟩
theorem natural_any (l : List UInt8) (hs : l.length ≤ 4096) (w : World) : Calls Tryd.prog 31 #[.string (str l)] w fun e w' => e = .returned (.bool (nat l)) ∧ w = w' := by
  by_cases h1 : l = [48]
  · subst h1; exact natural_48 w
  · cases l with
    | nil => exact natural_nil w
    | cons c r =>
      have hz := size_str (c :: r)
      have a1 := ne_of (c :: r) [48] h1
      have a2 := nil_of (c :: r) (by simp)
      have a0 : 0 < (str (c :: r)).size := by rw [hz]; simp
      have e : (str (c :: r))[0] = c := rfl
      by_cases hc : c = 48
      · subst hc
        have := natural_lead (str (48 :: r)) a1 a2 a0 (by rw [e]; rfl) w
        rw [show nat (48 :: r) = false by simpa [nat] using h1]
        exact this
      · have := natural_rest (str (c :: r)) (by omega) a1 a2 a0 (by
          rw [e]
          refine bne_true fun h => hc (UInt8.toNat_inj.1 ?_)
          have e48 : (48 : UInt8).toNat = 48 := rfl
          omega) w
        rw [show nat (c :: r) = digs (c :: r) by
          have : (c :: r == [48]) = false := by simpa using h1
          unfold nat
          rw [this]
          simp [hc]]
        exact this

/-! ### The reference's digits -/
theorem rdigits_nil (w : World) : Calls Tryd.prog 35 #[.string (str [])] w fun e w' => e = .returned (.bool false) ∧ w = w' := by
  go_enter Tryd.func35, Tryd.ntmps35
  go_wp2_with fail
  go_ret
  exact ⟨rfl, rfl⟩
theorem rdigits_lead (s : ByteArray) (h2 : s.toList.isEmpty = false) (h0 : 0 < s.size) (h3 : ((s[0].toNat : Int) == 48) = true) (h1 : (1 : Int) < (s.size : Int)) (w : World) : Calls Tryd.prog 35 #[.string s] w fun e w' => e = .returned (.bool false) ∧ w = w' := by
  have k0 : ∀ W, (Instr.index 9 (.string s) (.int .i64 0)).run Tryd.prog W = .ok (.int .u8 s[0].toNat) W := run_at s 0 h0
  go_enter Tryd.func35, Tryd.ntmps35
  go_wp2_with fail
  go_ret
  exact ⟨rfl, rfl⟩
theorem rdigits_yes (s : ByteArray) (hs : s.size ≤ 4096) (h2 : s.toList.isEmpty = false) (h0 : 0 < s.size) (z : Bool) (h3 : ((s[0].toNat : Int) == 48) = z) (h1 : z = true → ¬ (1 : Int) < (s.size : Int)) (hd : digs s.data.toList = true) (w : World) : Calls Tryd.prog 35 #[.string s] w fun e w' => e = .returned (.bool true) ∧ w = w' := by
  have k0 : ∀ W, (Instr.index 9 (.string s) (.int .i64 0)).run Tryd.prog W = .ok (.int .u8 s[0].toNat) W := run_at s 0 h0
  have HD := Lib.hid hd
  clear hd
  cases z
  all_goals
    first | (have m := h1 rfl; clear h1) | clear h1
    go_enter Tryd.func35, Tryd.ntmps35
    go_wp2_with fail
    go_loop [3] (fun i => ∃ k : Nat, k ≤ s.size ∧ i = .int .i64 k) (fun i => s.size - (intOf i).toNat)
    case atStart => exact ⟨0, by omega, rfl⟩
    case round =>
      obtain ⟨k, hk, rfl⟩ := hrel
      by_cases hlt : k < s.size
      · have kk := run_at s k hlt
        have hc := digs_at s k hlt HD.out
        go_wp2_with fail
        go_round
        case rel => exact ⟨k + 1, by omega, by go_num⟩
        case measure => simp [intOf]; omega
      · go_wp2_with fail
        go_ret
        exact ⟨rfl, rfl⟩
theorem rdigits_no (s : ByteArray) (hs : s.size ≤ 4096) (h2 : s.toList.isEmpty = false) (h0 : 0 < s.size) (z : Bool) (h3 : ((s[0].toNat : Int) == 48) = z) (h1 : z = true → ¬ (1 : Int) < (s.size : Int)) (hd : digs s.data.toList = false) (w : World) : Calls Tryd.prog 35 #[.string s] w fun e w' => e = .returned (.bool false) ∧ w = w' := by
  have k0 : ∀ W, (Instr.index 9 (.string s) (.int .i64 0)).run Tryd.prog W = .ok (.int .u8 s[0].toNat) W := run_at s 0 h0
  have HD := Lib.hid hd
  clear hd
  cases z
  all_goals
    first | (have m := h1 rfl; clear h1) | clear h1
    go_enter Tryd.func35, Tryd.ntmps35
    go_wp2_with fail
    go_loop [3] (fun i => ∃ k : Nat, k ≤ s.size ∧ i = .int .i64 k ∧ Hid (digs (s.data.toList.take k) = true)) (fun i => s.size - (intOf i).toNat)
    case atStart => exact ⟨0, by omega, rfl, Lib.hid rfl⟩
    case round =>
      obtain ⟨k, hk, rfl, ht⟩ := hrel
      by_cases hlt : k < s.size
      · have kk := run_at s k hlt
        by_cases hc : 48 ≤ s[k].toNat ∧ s[k].toNat ≤ 57
        · have hst := Lib.hid (digs_step s k hlt ht.out hc)
          go_wp2_with fail
          go_round
          case rel => exact ⟨k + 1, by omega, by go_num, hst⟩
          case measure => simp [intOf]; omega
        · by_cases h1 : s[k].toNat < 48
          · go_wp2_with fail
            go_ret
            exact ⟨rfl, rfl⟩
          · have h2 : 57 < s[k].toNat := by omega
            go_wp2_with fail
            go_ret
            exact ⟨rfl, rfl⟩
      · have hf := digs_of_take s k hlt ht.out
        rw [HD.out] at hf
        cases hf
theorem rdigits_any (l : List UInt8) (hs : l.length ≤ 4096) (w : World) : Calls Tryd.prog 35 #[.string (str l)] w fun e w' => e = .returned (.bool (nat l)) ∧ w = w' := by
  cases l with
  | nil => exact rdigits_nil w
  | cons c r =>
    have hz := size_str (c :: r)
    have a2 := nil_of (c :: r) (by simp)
    have a0 : 0 < (str (c :: r)).size := by rw [hz]; simp
    have e : (str (c :: r))[0] = c := rfl
    have e48 : (48 : UInt8).toNat = 48 := rfl
    by_cases hl : c = 48 ∧ r ≠ []
    · obtain ⟨rfl, hr⟩ := hl
      have := rdigits_lead (str (48 :: r)) a2 a0 (by rw [e]; rfl) (by rw [hz]; cases r with | nil => exact absurd rfl hr | cons _ _ => simp; omega) w
      rw [show nat (48 :: r) = false by simpa [nat] using hr]
      exact this
    · have en : nat (c :: r) = digs (c :: r) := by
        by_cases hc : c = 48
        · have hr : r = [] := Decidable.byContradiction fun h => hl ⟨hc, h⟩
          subst hc hr
          decide
        · have : (c :: r == [48]) = false := by simp [hc]
          unfold nat
          rw [this]
          simp [hc]
      rw [en]
      have h1 : (decide (c = 48)) = true → ¬ (1 : Int) < ((str (c :: r)).size : Int) := by
        intro hc
        have hr : r = [] := Decidable.byContradiction fun h => hl ⟨of_decide_eq_true hc, h⟩
        rw [hz, hr]
        simp
      have h3 : (((str (c :: r))[0].toNat : Int) == 48) = decide (c = 48) := by
        rw [e, Bool.eq_iff_iff, beq_iff_eq, decide_eq_true_eq]
        exact ⟨fun h => UInt8.toNat_inj.1 (by omega), fun h => by rw [h]; rfl⟩
      cases hd : digs (c :: r) with
      | true => exact rdigits_yes _ (by omega) a2 a0 _ h3 h1 hd w
      | false => exact rdigits_no _ (by omega) a2 a0 _ h3 h1 hd w

/-! ### The reference's decimal form -/
theorem rdigit_any (k : Nat) (hk : k < 10) (w : World) : Calls Tryd.prog 34 #[.int .i64 k] w fun e w' => e = .returned (.string (str [UInt8.ofNat (48 + k)])) ∧ w = w' := by
  match k, hk with
  | 0, _ | 1, _ | 2, _ | 3, _ | 4, _ | 5, _ | 6, _ | 7, _ | 8, _ | 9, _ =>
    go_enter Tryd.func34, Tryd.ntmps34
    go_wp2_with fail
    go_ret
    exact ⟨rfl, rfl⟩
end Go.Proofs.YtaglpfilopcniaaDoor
