/-
  Parse of the reference of package clock: what each call answers; nothing that existed before the call has changed behind it. Condition: none beyond each theorem's own hypotheses.
-/
import Derived.Test.YtnojjmpcgbbofaaDoorParse
import Derived.Deep.QuietTactic
import Derived.BigQuiet
namespace Go.Proofs.YtnojjmpcgbbofaaDoor
open Go.RowKit

theorem pairN_eq (s : ByteArray) (i j : Nat) (hj : j = i + 1) (h : j < s.size) (hi : i < s.size) (d0 : 48 ≤ s[i].toNat) (d1 : 48 ≤ s[j].toNat) : (pairN s.data.toList i : Int) = 10 * ((s[i].toNat : Int) - 48) + ((s[j].toNat : Int) - 48) := by
  subst hj
  have e : (s.data.toList.drop i).take 2 = [s[i], s[i + 1]] := by
    apply List.ext_getElem?
    intro k
    match k with
    | 0 => rw [List.getElem?_take_of_lt (by decide), List.getElem?_drop, Nat.add_zero, list_at s i hi]; rfl
    | 1 => rw [List.getElem?_take_of_lt (by decide), List.getElem?_drop, list_at s (i + 1) h]; rfl
    | k + 2 => rw [List.getElem?_eq_none (by simp; omega)]; rfl
  unfold pairN
  rw [e]
  simp [valN]
  omega


theorem ret_int {k : IntKind} {a b : Int} (h : a = b) : Ending.returned (.int k a) = .returned (.int k b) := by rw [h]
theorem pair0 (s : ByteArray) (h : 8 ≤ s.size) (d0 : 48 ≤ s[0].toNat ∧ s[0].toNat ≤ 57) (d1 : 48 ≤ s[1].toNat ∧ s[1].toNat ≤ 57) (w : World) :
    Calls Tryd.prog 35 #[.string s, .int .i64 0] w fun e w' => e = .returned (.int .i64 (pairN s.data.toList 0)) ∧ Below w.heap.size w w' := by
  have HE := Lib.hid (pairN_eq s 0 1 rfl (by omega) (by omega) d0.1 d1.1)
  have k0 : ∀ W, (Instr.index 9 (.string s) (.int .i64 0)).run Tryd.prog W = .ok (.int .u8 s[0].toNat) W := run_at s 0 (by omega)
  have k1 : ∀ W, (Instr.index 9 (.string s) (.int .i64 1)).run Tryd.prog W = .ok (.int .u8 s[1].toNat) W := run_at s 1 (by omega)
  obtain ⟨a0, b0⟩ := d0
  obtain ⟨a1, b1⟩ := d1
  go_enter Tryd.func35, Tryd.ntmps35
  go_wp2_with fail
  go_quiet (fail)
  go_wp2_with fail
  go_ret
  exact ⟨ret_int HE.out.symm, below_drewN (Below.refl _ _) _⟩
theorem pair3 (s : ByteArray) (h : 8 ≤ s.size) (d0 : 48 ≤ s[3].toNat ∧ s[3].toNat ≤ 57) (d1 : 48 ≤ s[4].toNat ∧ s[4].toNat ≤ 57) (w : World) :
    Calls Tryd.prog 35 #[.string s, .int .i64 3] w fun e w' => e = .returned (.int .i64 (pairN s.data.toList 3)) ∧ Below w.heap.size w w' := by
  have HE := Lib.hid (pairN_eq s 3 4 rfl (by omega) (by omega) d0.1 d1.1)
  have k0 : ∀ W, (Instr.index 9 (.string s) (.int .i64 3)).run Tryd.prog W = .ok (.int .u8 s[3].toNat) W := run_at s 3 (by omega)
  have k1 : ∀ W, (Instr.index 9 (.string s) (.int .i64 4)).run Tryd.prog W = .ok (.int .u8 s[4].toNat) W := run_at s 4 (by omega)
  obtain ⟨a0, b0⟩ := d0
  obtain ⟨a1, b1⟩ := d1
  go_enter Tryd.func35, Tryd.ntmps35
  go_wp2_with fail
  go_quiet (fail)
  go_wp2_with fail
  go_ret
  exact ⟨ret_int HE.out.symm, below_drewN (Below.refl _ _) _⟩
theorem pair6 (s : ByteArray) (h : 8 ≤ s.size) (d0 : 48 ≤ s[6].toNat ∧ s[6].toNat ≤ 57) (d1 : 48 ≤ s[7].toNat ∧ s[7].toNat ≤ 57) (w : World) :
    Calls Tryd.prog 35 #[.string s, .int .i64 6] w fun e w' => e = .returned (.int .i64 (pairN s.data.toList 6)) ∧ Below w.heap.size w w' := by
  have HE := Lib.hid (pairN_eq s 6 7 rfl (by omega) (by omega) d0.1 d1.1)
  have k0 : ∀ W, (Instr.index 9 (.string s) (.int .i64 6)).run Tryd.prog W = .ok (.int .u8 s[6].toNat) W := run_at s 6 (by omega)
  have k1 : ∀ W, (Instr.index 9 (.string s) (.int .i64 7)).run Tryd.prog W = .ok (.int .u8 s[7].toNat) W := run_at s 7 (by omega)
  obtain ⟨a0, b0⟩ := d0
  obtain ⟨a1, b1⟩ := d1
  go_enter Tryd.func35, Tryd.ntmps35
  go_wp2_with fail
  go_quiet (fail)
  go_wp2_with fail
  go_ret
  exact ⟨ret_int HE.out.symm, below_drewN (Below.refl _ _) _⟩

theorem form_byte (s : ByteArray) (hf : timeForm s.data.toList = true) (k : Nat) (h : k < s.size) (hk : ¬ (k = 2 ∨ k = 5)) : 48 ≤ s[k].toNat ∧ s[k].toNat ≤ 57 :=
  (okAt_digit k _ hk).1 ((form_at _ hf).2 k _ (list_at s k h))
theorem form_colon (s : ByteArray) (hf : timeForm s.data.toList = true) (k : Nat) (h : k < s.size) (hk : k = 2 ∨ k = 5) : s[k].toNat = 58 :=
  (okAt_colon k _ hk).1 ((form_at _ hf).2 k _ (list_at s k h))

/-- The reference's loop over a text of the right form, and what comes behind it, told once. -/
theorem rparse_yes (s : ByteArray) (hf : timeForm s.data.toList = true) (hp : Parts (pairN s.data.toList 0) (pairN s.data.toList 3) (pairN s.data.toList 6)) (w : World) :
    Calls Tryd.prog 21 #[.string s] w fun e w' => e = .returned (.tuple #[.int .i64 ((pairN s.data.toList 0 : Int) * 3600 + (pairN s.data.toList 3 : Int) * 60 + (pairN s.data.toList 6 : Int)), .int .i64 0]) ∧ Below w.heap.size w w' := by
  have h8 : s.size = 8 := (form_at _ hf).1
  have HF := Lib.hid hf
  have HP := Lib.hid hp
  have g8 : 8 ≤ s.size := by omega
  have n8 : ((s.size : Int) != 8) = false := by rw [h8]; rfl
  have q2 : 2 < s.size := by omega
  have q5 : 5 < s.size := by omega
  have k2 : ∀ W, (Instr.index 9 (.string s) (.int .i64 2)).run Tryd.prog W = .ok (.int .u8 s[2].toNat) W := run_at s 2 q2
  have k5 : ∀ W, (Instr.index 9 (.string s) (.int .i64 5)).run Tryd.prog W = .ok (.int .u8 s[5].toNat) W := run_at s 5 q5
  have c2 : (((s[2].toNat : Nat) : Int) != 58) = false := by rw [form_colon s hf 2 q2 (Or.inl rfl)]; rfl
  have c5 : (((s[5].toNat : Nat) : Int) != 58) = false := by rw [form_colon s hf 5 q5 (Or.inr rfl)]; rfl
  have H8 := Lib.hid h8
  clear hf hp h8
  go_enter Tryd.func21, Tryd.ntmps21
  go_wp2_with fail
  go_loop [4] (fun i => ∃ k : Nat, k ≤ 8 ∧ i = .int .i64 k) (fun i => 8 - (intOf i).toNat)
  case atStart => exact ⟨0, by omega, rfl⟩
  case round =>
    clear k2 k5 c2 c5 n8
    obtain ⟨k, hk, rfl⟩ := hrel
    by_cases hlt : k < 8
    · have hks : k < s.size := by have := H8.out; omega
      have kk := run_at s k hks
      by_cases h2 : k = 2
      · have b2 : ((k : Int) != 2) = false := by rw [h2]; rfl
        have H2 := Lib.hid h2
        clear h2
        go_wp2_with fail
        go_round
        case rel => exact ⟨k + 1, by omega, by go_num⟩
        case measure => simp [intOf]; omega
      · by_cases h5 : k = 5
        · have b2 : ((k : Int) != 2) = true := bne_true (by omega)
          have b5 : ((k : Int) != 5) = false := by rw [h5]; rfl
          have H5 := Lib.hid h5
          clear h5 h2
          go_wp2_with fail
          go_round
          case rel => exact ⟨k + 1, by omega, by go_num⟩
          case measure => simp [intOf]; omega
        · have b2 : ((k : Int) != 2) = true := bne_true (by omega)
          have b5 : ((k : Int) != 5) = true := bne_true (by omega)
          have hd := form_byte s HF.out k hks (by omega)
          go_wp2_with (go_at_call 34; refine (rdigit_yes _ (by omega) (by omega) _).mono ?_; rintro e w' ⟨rfl, rfl⟩)
          go_round
          case rel => exact ⟨k + 1, by omega, by go_num⟩
          case measure => simp [intOf]; omega
    · have hd := fun (k : Nat) (h : k < s.size) (hk : ¬ (k = 2 ∨ k = 5)) => form_byte s HF.out k h hk
      have HD := Lib.hid hd
      clear hd
      go_wp2_with fail
      refine (pair0 s g8 (HD.out 0 (by omega) (by omega)) (HD.out 1 (by omega) (by omega)) _).mono ?_
      rintro e w1 ⟨rfl, b1⟩
      go_wp2_with fail
      refine (pair3 s g8 (HD.out 3 (by omega) (by omega)) (HD.out 4 (by omega) (by omega)) _).mono ?_
      rintro e w2 ⟨rfl, b2⟩
      go_wp2_with fail
      refine (pair6 s g8 (HD.out 6 (by omega) (by omega)) (HD.out 7 (by omega) (by omega)) _).mono ?_
      rintro e w3 ⟨rfl, b3⟩
      go_wp2_with fail
      refine (rjoin_yes _ _ _ HP.out _).mono ?_
      rintro e w4 ⟨rfl, rfl⟩
      go_wp2_with fail
      go_ret2
      exact ⟨rfl, b1.trans ((b2.trans (b3.mono b2.size)).mono b1.size)⟩
theorem rparse_time (s : ByteArray) (hf : timeForm s.data.toList = true) (hp : ¬ Parts (pairN s.data.toList 0) (pairN s.data.toList 3) (pairN s.data.toList 6)) (w : World) :
    Calls Tryd.prog 21 #[.string s] w fun e w' => e = .returned (.tuple #[.int .i64 0, .int .i64 10]) ∧ Below w.heap.size w w' := by
  have h8 : s.size = 8 := (form_at _ hf).1
  have HF := Lib.hid hf
  have HP := Lib.hid hp
  have g8 : 8 ≤ s.size := by omega
  have n8 : ((s.size : Int) != 8) = false := by rw [h8]; rfl
  have q2 : 2 < s.size := by omega
  have q5 : 5 < s.size := by omega
  have k2 : ∀ W, (Instr.index 9 (.string s) (.int .i64 2)).run Tryd.prog W = .ok (.int .u8 s[2].toNat) W := run_at s 2 q2
  have k5 : ∀ W, (Instr.index 9 (.string s) (.int .i64 5)).run Tryd.prog W = .ok (.int .u8 s[5].toNat) W := run_at s 5 q5
  have c2 : (((s[2].toNat : Nat) : Int) != 58) = false := by rw [form_colon s hf 2 q2 (Or.inl rfl)]; rfl
  have c5 : (((s[5].toNat : Nat) : Int) != 58) = false := by rw [form_colon s hf 5 q5 (Or.inr rfl)]; rfl
  have H8 := Lib.hid h8
  clear hf hp h8
  go_enter Tryd.func21, Tryd.ntmps21
  go_wp2_with fail
  go_loop [4] (fun i => ∃ k : Nat, k ≤ 8 ∧ i = .int .i64 k) (fun i => 8 - (intOf i).toNat)
  case atStart => exact ⟨0, by omega, rfl⟩
  case round =>
    clear k2 k5 c2 c5 n8
    obtain ⟨k, hk, rfl⟩ := hrel
    by_cases hlt : k < 8
    · have hks : k < s.size := by have := H8.out; omega
      have kk := run_at s k hks
      by_cases h2 : k = 2
      · have b2 : ((k : Int) != 2) = false := by rw [h2]; rfl
        have H2 := Lib.hid h2
        clear h2
        go_wp2_with fail
        go_round
        case rel => exact ⟨k + 1, by omega, by go_num⟩
        case measure => simp [intOf]; omega
      · by_cases h5 : k = 5
        · have b2 : ((k : Int) != 2) = true := bne_true (by omega)
          have b5 : ((k : Int) != 5) = false := by rw [h5]; rfl
          have H5 := Lib.hid h5
          clear h5 h2
          go_wp2_with fail
          go_round
          case rel => exact ⟨k + 1, by omega, by go_num⟩
          case measure => simp [intOf]; omega
        · have b2 : ((k : Int) != 2) = true := bne_true (by omega)
          have b5 : ((k : Int) != 5) = true := bne_true (by omega)
          have hd := form_byte s HF.out k hks (by omega)
          go_wp2_with (go_at_call 34; refine (rdigit_yes _ (by omega) (by omega) _).mono ?_; rintro e w' ⟨rfl, rfl⟩)
          go_round
          case rel => exact ⟨k + 1, by omega, by go_num⟩
          case measure => simp [intOf]; omega
    · have hd := fun (k : Nat) (h : k < s.size) (hk : ¬ (k = 2 ∨ k = 5)) => form_byte s HF.out k h hk
      have HD := Lib.hid hd
      clear hd
      go_wp2_with fail
      refine (pair0 s g8 (HD.out 0 (by omega) (by omega)) (HD.out 1 (by omega) (by omega)) _).mono ?_
      rintro e w1 ⟨rfl, b1⟩
      go_wp2_with fail
      refine (pair3 s g8 (HD.out 3 (by omega) (by omega)) (HD.out 4 (by omega) (by omega)) _).mono ?_
      rintro e w2 ⟨rfl, b2⟩
      go_wp2_with fail
      refine (pair6 s g8 (HD.out 6 (by omega) (by omega)) (HD.out 7 (by omega) (by omega)) _).mono ?_
      rintro e w3 ⟨rfl, b3⟩
      go_wp2_with fail
      refine (rjoin_no _ _ _ HP.out _).mono ?_
      rintro e w4 ⟨rfl, rfl⟩
      go_wp2_with fail
      go_ret2
      exact ⟨rfl, b1.trans ((b2.trans (b3.mono b2.size)).mono b1.size)⟩

theorem rparse_len (s : ByteArray) (h8 : s.size ≠ 8) (w : World) :
    Calls Tryd.prog 21 #[.string s] w fun e w' => e = .returned (.tuple #[.int .i64 0, .int .i64 3]) ∧ w = w' := by
  have n8 : ((s.size : Int) != 8) = true := bne_true (by omega)
  go_enter Tryd.func21, Tryd.ntmps21
  go_wp2_with fail
  go_ret2
  exact ⟨rfl, rfl⟩
theorem rparse_two (s : ByteArray) (h8 : s.size = 8) (q2 : 2 < s.size) (hc : s[2].toNat ≠ 58) (w : World) :
    Calls Tryd.prog 21 #[.string s] w fun e w' => e = .returned (.tuple #[.int .i64 0, .int .i64 3]) ∧ w = w' := by
  have n8 : ((s.size : Int) != 8) = false := by rw [h8]; rfl
  have k2 : ∀ W, (Instr.index 9 (.string s) (.int .i64 2)).run Tryd.prog W = .ok (.int .u8 s[2].toNat) W := run_at s 2 q2
  have c2 : (((s[2].toNat : Nat) : Int) != 58) = true := bne_true (by omega)
  clear h8 hc
  go_enter Tryd.func21, Tryd.ntmps21
  go_wp2_with fail
  go_ret2
  exact ⟨rfl, rfl⟩
theorem rparse_five (s : ByteArray) (h8 : s.size = 8) (q2 : 2 < s.size) (q5 : 5 < s.size) (hc2 : s[2].toNat = 58) (hc : s[5].toNat ≠ 58) (w : World) :
    Calls Tryd.prog 21 #[.string s] w fun e w' => e = .returned (.tuple #[.int .i64 0, .int .i64 3]) ∧ w = w' := by
  have n8 : ((s.size : Int) != 8) = false := by rw [h8]; rfl
  have k2 : ∀ W, (Instr.index 9 (.string s) (.int .i64 2)).run Tryd.prog W = .ok (.int .u8 s[2].toNat) W := run_at s 2 q2
  have c2 : (((s[2].toNat : Nat) : Int) != 58) = false := by rw [hc2]; rfl
  have k5 : ∀ W, (Instr.index 9 (.string s) (.int .i64 5)).run Tryd.prog W = .ok (.int .u8 s[5].toNat) W := run_at s 5 q5
  have c5 : (((s[5].toNat : Nat) : Int) != 58) = true := bne_true (by omega)
  clear h8 hc hc2
  go_enter Tryd.func21, Tryd.ntmps21
  go_wp2_with fail
  go_ret2
  exact ⟨rfl, rfl⟩
theorem rparse_digit (s : ByteArray) (h8 : s.size = 8) (q2 : 2 < s.size) (q5 : 5 < s.size) (hc2 : s[2].toNat = 58) (hc5 : s[5].toNat = 58) (hf : timeForm s.data.toList = false) (w : World) :
    Calls Tryd.prog 21 #[.string s] w fun e w' => e = .returned (.tuple #[.int .i64 0, .int .i64 3]) ∧ w = w' := by
  have n8 : ((s.size : Int) != 8) = false := by rw [h8]; rfl
  have k2 : ∀ W, (Instr.index 9 (.string s) (.int .i64 2)).run Tryd.prog W = .ok (.int .u8 s[2].toNat) W := run_at s 2 q2
  have c2 : (((s[2].toNat : Nat) : Int) != 58) = false := by rw [hc2]; rfl
  have k5 : ∀ W, (Instr.index 9 (.string s) (.int .i64 5)).run Tryd.prog W = .ok (.int .u8 s[5].toNat) W := run_at s 5 q5
  have c5 : (((s[5].toNat : Nat) : Int) != 58) = false := by rw [hc5]; rfl
  have H8 := Lib.hid h8
  have HF := Lib.hid hf
  have HC2 := Lib.hid hc2
  have HC5 := Lib.hid hc5
  clear h8 hc2 hc5 hf
  go_enter Tryd.func21, Tryd.ntmps21
  go_wp2_with fail
  go_loop [4] (fun i => ∃ k : Nat, k ≤ 8 ∧ i = .int .i64 k ∧ Hid (∀ j c, j < k → s.data.toList[j]? = some c → okAt j c = true)) (fun i => 8 - (intOf i).toNat)
  case atStart => exact ⟨0, by omega, rfl, Lib.hid (fun j c hj => absurd hj (Nat.not_lt_zero _))⟩
  case round =>
    clear k2 k5 c2 c5 n8
    obtain ⟨k, hk, rfl, ht⟩ := hrel
    by_cases hlt : k < 8
    · have hks : k < s.size := by have := H8.out; omega
      have kk := run_at s k hks
      have hst : okAt k s[k] = true → Hid (∀ j c, j < k + 1 → s.data.toList[j]? = some c → okAt j c = true) := by
        intro hx j c hj hl
        by_cases hjk : j < k
        · exact ht.out j c hjk hl
        · obtain rfl : j = k := by omega
          rw [list_at s j hks] at hl
          cases hl
          exact hx
      by_cases h2 : k = 2
      · have b2 : ((k : Int) != 2) = false := by rw [h2]; rfl
        have hst := hst ((okAt_colon k _ (Or.inl h2)).2 (by subst h2; exact HC2.out))
        have H2 := Lib.hid h2
        clear h2
        go_wp2_with fail
        go_round
        case rel => exact ⟨k + 1, by omega, by go_num, hst⟩
        case measure => simp [intOf]; omega
      · by_cases h5 : k = 5
        · have b2 : ((k : Int) != 2) = true := bne_true (by omega)
          have b5 : ((k : Int) != 5) = false := by rw [h5]; rfl
          have hst := hst ((okAt_colon k _ (Or.inr h5)).2 (by subst h5; exact HC5.out))
          have H5 := Lib.hid h5
          clear h5 h2
          go_wp2_with fail
          go_round
          case rel => exact ⟨k + 1, by omega, by go_num, hst⟩
          case measure => simp [intOf]; omega
        · have b2 : ((k : Int) != 2) = true := bne_true (by omega)
          have b5 : ((k : Int) != 5) = true := bne_true (by omega)
          by_cases hd : 48 ≤ s[k].toNat ∧ s[k].toNat ≤ 57
          · have hst := hst ((okAt_digit k _ (by omega)).2 hd)
            go_wp2_with (go_at_call 34; refine (rdigit_yes _ (by omega) (by omega) _).mono ?_; rintro e w' ⟨rfl, rfl⟩)
            go_round
            case rel => exact ⟨k + 1, by omega, by go_num, hst⟩
            case measure => simp [intOf]; omega
          · have hd : s[k].toNat < 48 ∨ 57 < s[k].toNat := by omega
            clear hst
            go_wp2_with (go_at_call 34; refine (rdigit_no _ (by omega) _).mono ?_; rintro e w' ⟨rfl, rfl⟩)
            go_ret2
            exact ⟨rfl, rfl⟩
    · have hfm := form_mk s.data.toList H8.out (fun j c hl => ht.out j c (by have := (List.getElem?_eq_some_iff.1 hl).1; have h9 : j < s.size := this; have := H8.out; omega) hl)
      rw [HF.out] at hfm
      cases hfm
theorem rparse_syntax (s : ByteArray) (hf : timeForm s.data.toList = false) (w : World) :
    Calls Tryd.prog 21 #[.string s] w fun e w' => e = .returned (.tuple #[.int .i64 0, .int .i64 3]) ∧ w = w' := by
  by_cases h8 : s.size = 8
  · by_cases h2 : (s[2]'(by omega)).toNat = 58
    · by_cases h5 : (s[5]'(by omega)).toNat = 58
      · exact rparse_digit s h8 (by omega) (by omega) h2 h5 hf w
      · exact rparse_five s h8 (by omega) (by omega) h2 h5 w
    · exact rparse_two s h8 (by omega) h2 w
  · exact rparse_len s h8 w

theorem timeR_yes (l : List UInt8) (hf : timeForm l = true) (hp : Parts (pairN l 0) (pairN l 3) (pairN l 6)) : timeR l = ((pairN l 0 : Int) * 3600 + (pairN l 3 : Int) * 60 + (pairN l 6 : Int), 0) := by
  unfold timeR; rw [if_pos hf, if_pos hp]
theorem timeR_time (l : List UInt8) (hf : timeForm l = true) (hp : ¬ Parts (pairN l 0) (pairN l 3) (pairN l 6)) : timeR l = (0, 10) := by
  unfold timeR; rw [if_pos hf, if_neg hp]
theorem timeR_syntax (l : List UInt8) (hf : timeForm l = false) : timeR l = (0, 3) := by
  unfold timeR; rw [hf]; rfl
theorem parse_any (s : ByteArray) (w : World) :
    Calls Tryd.prog 20 #[.string s] w fun e w' => e = .returned (.tuple #[.int .i64 (timeR s.data.toList).1, .int .i64 (timeR s.data.toList).2]) ∧ Below w.heap.size w w' := by
  cases hf : timeForm s.data.toList with
  | false => rw [timeR_syntax _ hf]; exact parse_syntax s hf w
  | true =>
    by_cases hp : Parts (pairN s.data.toList 0) (pairN s.data.toList 3) (pairN s.data.toList 6)
    · rw [timeR_yes _ hf hp]; exact parse_yes s hf hp w
    · rw [timeR_time _ hf hp]; exact parse_time s hf hp w
theorem rparse_any (s : ByteArray) (w : World) :
    Calls Tryd.prog 21 #[.string s] w fun e w' => e = .returned (.tuple #[.int .i64 (timeR s.data.toList).1, .int .i64 (timeR s.data.toList).2]) ∧ Below w.heap.size w w' := by
  cases hf : timeForm s.data.toList with
  | false => rw [timeR_syntax _ hf]; exact still (rparse_syntax s hf w)
  | true =>
    by_cases hp : Parts (pairN s.data.toList 0) (pairN s.data.toList 3) (pairN s.data.toList 6)
    · rw [timeR_yes _ hf hp]; exact rparse_yes s hf hp w
    · rw [timeR_time _ hf hp]; exact rparse_time s hf hp w
end Go.Proofs.YtnojjmpcgbbofaaDoor
