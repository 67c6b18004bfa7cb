/-
  ParseDuration of the reference of package clock: what each call answers; nothing that existed before the call has changed behind it. Condition: none beyond each theorem's own hypotheses.
-/
import Derived.Test.YtnojjmpcgbbofaaDoorDur
import Derived.Test.YtnojjmpcgbbofaaDoorRParse
import Derived.Test.YtnojjmpcgbbofaaDoorReadPlain
namespace Go.Proofs.YtnojjmpcgbbofaaDoor
open Go.RowKit


theorem plain_digs (s : ByteArray) (hs : s.size ≤ 4096) (hd : digs s.data.toList = false) (w : World) :
    Calls Tryd.prog 43 #[.string s] w fun e w' => e = .returned (.bool false) ∧ w = w' := by
  have HD := Lib.hid hd
  clear hd
  go_enter Tryd.func43, Tryd.ntmps43
  go_wp2_with fail
  go_loop [3] (fun i => ∃ k : Nat, k ≤ s.size ∧ i = .int .i64 k ∧ Hid (digs (s.data.toList.take k) = true)) (fun i => s.size - (intOf i).toNat)
  case atStart => exact ⟨0, by omega, rfl, Lib.hid rfl⟩
  case round =>
    obtain ⟨k, hk, rfl, ht⟩ := hrel
    by_cases hlt : k < s.size
    · have kk := run_at s k hlt
      by_cases hc : 48 ≤ s[k].toNat ∧ s[k].toNat ≤ 57
      · have hst := Lib.hid (digs_step s k hlt ht.out hc)
        go_wp2_with (go_at_call 34; refine (rdigit_yes _ (by omega) (by omega) _).mono ?_; rintro e w' ⟨rfl, rfl⟩)
        go_round
        case rel => exact ⟨k + 1, by omega, by go_num, hst⟩
        case measure => simp [intOf]; omega
      · have hc : s[k].toNat < 48 ∨ 57 < s[k].toNat := by omega
        go_wp2_with (go_at_call 34; refine (rdigit_no _ (by omega) _).mono ?_; rintro e w' ⟨rfl, rfl⟩)
        go_ret
        exact ⟨rfl, rfl⟩
    · have hf := digs_of_take s k hlt ht.out
      rw [HD.out] at hf
      cases hf

/-- plain of digits, by the tests behind its loop. -/
theorem plain_core (s : ByteArray) (hs : s.size ≤ 4096) (hd : digs s.data.toList = true) (one more zero : Bool) (h1 : ((s.size : Int) == 1) = one) (h2 : decide ((1 : Int) < (s.size : Int)) = more)
    (h3 : more = true → ∃ h : 0 < s.size, ((s[0].toNat : Int) != 48) = zero) (w : World) :
    Calls Tryd.prog 43 #[.string s] w fun e w' => e = .returned (.bool (bif one then true else bif more then zero else false)) ∧ w = w' := by
  have HD := Lib.hid hd
  have H1 := Lib.hid h1
  have H2 := Lib.hid h2
  have H3 := Lib.hid h3
  clear hd h1 h2 h3
  go_enter Tryd.func43, Tryd.ntmps43
  go_wp2_with fail
  go_loop [3] (fun i => ∃ k : Nat, k ≤ s.size ∧ i = .int .i64 k) (fun i => s.size - (intOf i).toNat)
  case atStart => exact ⟨0, by omega, rfl⟩
  case round =>
    obtain ⟨k, hk, rfl⟩ := hrel
    by_cases hlt : k < s.size
    · have kk := run_at s k hlt
      have hc := digs_at s k hlt HD.out
      go_wp2_with (go_at_call 34; refine (rdigit_yes _ (by omega) (by omega) _).mono ?_; rintro e w' ⟨rfl, rfl⟩)
      go_round
      case rel => exact ⟨k + 1, by omega, by go_num⟩
      case measure => simp [intOf]; omega
    · have h1 := H1.out
      have h2 := H2.out
      cases one
      · cases more
        · have h2' : ¬ (1 : Int) < (s.size : Int) := of_decide_eq_false h2
          go_wp2_with fail
          go_ret
          exact ⟨rfl, rfl⟩
        · have h2' : (1 : Int) < (s.size : Int) := of_decide_eq_true h2
          obtain ⟨h0, h3⟩ := H3.out rfl
          have k0 : ∀ W, (Instr.index 9 (.string s) (.int .i64 0)).run Tryd.prog W = .ok (.int .u8 s[0].toNat) W := run_at s 0 h0
          go_wp2_with fail
          go_ret
          exact ⟨rfl, rfl⟩
      · go_wp2_with fail
        go_ret
        exact ⟨rfl, rfl⟩

theorem plain_any (l : List UInt8) (hs : l.length ≤ 4096) (w : World) :
    Calls Tryd.prog 43 #[.string (str l)] w fun e w' => e = .returned (.bool (plainD l)) ∧ w = w' := by
  have hz := size_str l
  cases hd : digs l with
  | false =>
    have e : plainD l = false := by unfold plainD; rw [hd]; rfl
    rw [e]
    exact plain_digs _ (by omega) hd w
  | true =>
    have key := plain_core (str l) (by omega) hd (decide (l.length = 1)) (decide (1 < l.length)) (!(l[0]? == some 48)) (by rw [hz, Bool.eq_iff_iff, beq_iff_eq, decide_eq_true_eq]; omega) (by rw [hz, Bool.eq_iff_iff, decide_eq_true_eq, decide_eq_true_eq]; omega) (by
      intro hm
      have h1 : 1 < l.length := of_decide_eq_true hm
      match l, h1 with
      | a :: t, h1 =>
        refine ⟨by rw [hz]; omega, ?_⟩
        have e : (str (a :: t))[0]'(by rw [hz]; omega) = a := rfl
        rw [e, Bool.eq_iff_iff, bne_iff_ne, Bool.not_eq_true', beq_eq_false_iff_ne]
        have h48 : (48 : UInt8).toNat = 48 := rfl
        constructor
        · intro hn he
          have he := Option.some.inj he
          exact hn (by rw [he]; rfl)
        · intro hn he
          exact hn (by rw [show a = 48 from UInt8.toNat_inj.1 (by omega)]; rfl)) w
    have e : (bif decide (l.length = 1) then true else bif decide (1 < l.length) then !(l[0]? == some 48) else false) = plainD l := by
      unfold plainD
      rw [hd]
      by_cases h1 : l.length = 1
      · simp [h1]
      · by_cases h2 : 1 < l.length
        · simp [h1, h2]
        · simp [h1, h2]
    rw [e] at key
    exact key

theorem rvalue_big (s : ByteArray) (h : 6 < s.size) (w : World) :
    Calls Tryd.prog 44 #[.string s] w fun e w' => e = .returned (.int .i64 1000000) ∧ w = w' := by
  have i : (6 : Int) < (s.size : Int) := by omega
  go_enter Tryd.func44, Tryd.ntmps44
  go_wp2_with fail
  go_ret
  exact ⟨rfl, rfl⟩
theorem rvalue_small (s : ByteArray) (hd : digs s.data.toList = true) (h : ¬ 6 < s.size) (w : World) :
    Calls Tryd.prog 44 #[.string s] w fun e w' => e = .returned (.int .i64 (valN s.data.toList)) ∧ w = w' := by
  have i : ¬ (6 : Int) < (s.size : Int) := by omega
  have HD := Lib.hid hd
  clear hd
  go_enter Tryd.func44, Tryd.ntmps44
  go_wp2_with fail
  go_loop [3, 4] (fun n i => ∃ k : Nat, k ≤ s.size ∧ i = .int .i64 k ∧ n = .int .i64 (valN (s.data.toList.take k))) (fun _ i => s.size - (intOf i).toNat)
  case atStart => exact ⟨0, by omega, rfl, rfl⟩
  case round =>
    obtain ⟨k, hk, rfl, rfl⟩ := hrel
    by_cases hlt : k < s.size
    · have kk := run_at s k hlt
      have hc := digs_at s k hlt HD.out
      have hv : valN (s.data.toList.take k) < 1000000 := by
        have h1 := valN_lt _ (digs_take _ k HD.out)
        have h2 : (s.data.toList.take k).length ≤ 6 := Nat.le_trans (List.length_take_le _ _) (by omega)
        exact Nat.lt_of_lt_of_le h1 (Nat.pow_le_pow_right (by decide) h2)
      have hs := Lib.hid (valN_snoc (s.data.toList.take k) s[k])
      have ht := Lib.hid (take_snoc s k hlt)
      go_wp2_with fail
      go_round
      case rel => exact ⟨k + 1, by omega, by go_num, by rw [ht.out, hs.out]; go_num⟩
      case measure => simp [intOf]; omega
    · have he := Lib.hid (List.take_of_length_le (l := s.data.toList) (i := k) (by simpa using hlt))
      go_wp2_with fail
      go_ret
      exact ⟨by rw [he.out]; rfl, rfl⟩
theorem rvalue_any (l : List UInt8) (hd : digs l = true) (w : World) :
    Calls Tryd.prog 44 #[.string (str l)] w fun e w' => e = .returned (.int .i64 (valM l)) ∧ w = w' := by
  have hz := size_str l
  unfold valM
  by_cases h : 6 < l.length
  · rw [if_pos h]; exact rvalue_big _ (by omega) w
  · rw [if_neg h]; exact rvalue_small _ hd (by omega) w

theorem below_len (s : ByteArray) (h : ((s.size : Int) == 2) = false) (w : World) :
    Calls Tryd.prog 45 #[.string s] w fun e w' => e = .returned (.bool false) ∧ w = w' := by
  go_enter Tryd.func45, Tryd.ntmps45
  go_wp2_with fail
  go_ret
  exact ⟨rfl, rfl⟩
theorem below_two (s : ByteArray) (h : ((s.size : Int) == 2) = true) (a b : Int) (da db : Bool) (k0 : ∀ W, (Instr.index 9 (.string s) (.int .i64 0)).run Tryd.prog W = .ok (.int .u8 a) W) (k1 : ∀ W, (Instr.index 9 (.string s) (.int .i64 1)).run Tryd.prog W = .ok (.int .u8 b) W)
    (ha : ∀ w : World, Calls Tryd.prog 34 #[.int .u8 a] w fun e w' => e = .returned (.bool da) ∧ w = w')
    (hb : ∀ w : World, Calls Tryd.prog 34 #[.int .u8 b] w fun e w' => e = .returned (.bool db) ∧ w = w') (w : World) :
    Calls Tryd.prog 45 #[.string s] w fun e w' => e = .returned (.bool (bif da then bif db then decide (a < 54) else false else false)) ∧ w = w' := by
  have HA := Lib.hid ha
  have HB := Lib.hid hb
  clear ha hb
  cases da
  · go_enter Tryd.func45, Tryd.ntmps45
    go_wp2_with fail
    refine (HA.out _).mono ?_
    rintro e w1 ⟨rfl, rfl⟩
    go_wp2_with fail
    go_ret
    exact ⟨rfl, rfl⟩
  cases db
  · go_enter Tryd.func45, Tryd.ntmps45
    go_wp2_with fail
    refine (HA.out _).mono ?_
    rintro e w1 ⟨rfl, rfl⟩
    go_wp2_with fail
    refine (HB.out _).mono ?_
    rintro e w1 ⟨rfl, rfl⟩
    go_wp2_with fail
    go_ret
    exact ⟨rfl, rfl⟩
  · go_enter Tryd.func45, Tryd.ntmps45
    go_wp2_with fail
    refine (HA.out _).mono ?_
    rintro e w1 ⟨rfl, rfl⟩
    go_wp2_with fail
    refine (HB.out _).mono ?_
    rintro e w1 ⟨rfl, rfl⟩
    go_wp2_with fail
    go_ret
    exact ⟨rfl, rfl⟩
theorem digit_any (c : UInt8) (w : World) : Calls Tryd.prog 34 #[.int .u8 c.toNat] w fun e w' => e = .returned (.bool (dig c)) ∧ w = w' := by
  cases h : dig c with
  | true => have := (dig_iff c).1 h; exact rdigit_yes _ (by omega) (by omega) w
  | false =>
    have : ¬ (48 ≤ c.toNat ∧ c.toNat ≤ 57) := fun hx => by rw [(dig_iff c).2 hx] at h; cases h
    exact rdigit_no _ (by omega) w
theorem below_any (l : List UInt8) (w : World) :
    Calls Tryd.prog 45 #[.string (str l)] w fun e w' => e = .returned (.bool (laterD l)) ∧ w = w' := by
  have hz := size_str l
  by_cases h2 : l.length = 2
  · match l, h2 with
    | [a, b], _ =>
      have key := below_two (str [a, b]) (by rw [hz]; rfl) a.toNat b.toNat (dig a) (dig b) (run_at (str [a, b]) 0 (by rw [hz]; exact Nat.zero_lt_succ 1)) (run_at (str [a, b]) 1 (by rw [hz]; exact Nat.lt_succ_self 1)) (digit_any a) (digit_any b) w
      have e : (bif dig a then bif dig b then decide ((a.toNat : Int) < 54) else false else false) = laterD [a, b] := by
        unfold laterD digs
        rw [val_pair]
        cases ha : dig a with
        | false => simp [ha]
        | true =>
          cases hb : dig b with
          | false => simp [hb]
          | true =>
            have h1 := (dig_iff a).1 ha
            have h2 := (dig_iff b).1 hb
            simp only [List.all_cons, List.all_nil, ha, hb, cond_true, Bool.and_true, List.length_cons, List.length_nil, Nat.zero_add, Nat.reduceAdd, decide_true, Bool.true_and]
            rw [Bool.eq_iff_iff, decide_eq_true_eq, decide_eq_true_eq]
            omega
      rw [e] at key
      exact key
  · have e : laterD l = false := by unfold laterD; simp [h2]
    rw [e]
    exact below_len _ (beq_false (by rw [hz]; omega)) w
end Go.Proofs.YtnojjmpcgbbofaaDoor
