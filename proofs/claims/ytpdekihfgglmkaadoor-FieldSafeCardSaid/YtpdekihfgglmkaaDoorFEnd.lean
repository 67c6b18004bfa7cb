/-
  Where a field ends, in package field and in its reference: what each call answers; nothing that existed before the call has changed behind it. Condition: a string of at most 2^40 bytes.
-/
import Derived.Test.YtpdekihfgglmkaaDoorFRUnq
namespace Go.Proofs.YtpdekihfgglmkaaDoor
open Go.RowKit

theorem prefix_any (s : ByteArray) (w : World) : Calls Tryd.prog 45 #[.string s, .string ⟨#[34]⟩] w fun e w' => e = .returned (.bool (decide (s.data.toList[0]? = some 34))) ∧ w = w' := by
  refine (Tryd.strings_HasPrefix s ⟨#[34]⟩ w).mono fun e w' ⟨he, hw⟩ => ⟨?_, hw.symm⟩
  rw [he]
  have : Lib.hasPrefix s.data.toList (⟨#[34]⟩ : ByteArray).data.toList = decide (s.data.toList[0]? = some 34) := by
    show List.isPrefixOf [34] s.data.toList = _
    cases s.data.toList with
    | nil => rfl
    | cons c r =>
      rw [Bool.eq_iff_iff]
      simp [List.isPrefixOf]
      exact ⟨fun h => h.symm, fun h => h.symm⟩
  rw [this]
theorem byte_neq {c d : UInt8} (h : c ≠ d) : ((c.toNat : Int) == (d.toNat : Int)) = false := beq_false (fun e => h (UInt8.toNat_inj.1 (by omega)))
theorem byte_bne {c d : UInt8} (h : c ≠ d) : ((c.toNat : Int) != (d.toNat : Int)) = true := bne_true (fun e => h (UInt8.toNat_inj.1 (by omega)))
set_option maxHeartbeats 1000000 in
theorem extent_any (s : ByteArray) (hs : s.size ≤ 1099511627776) (w : World) : Calls Tryd.prog 35 #[.string s] w fun e w' => e = .returned (.int .i64 ((endL s.data.toList : Nat) : Int)) ∧ w = w' := by
  have hz := sz_list s
  have P := Lib.hid (fun w => prefix_any s w)
  by_cases hq : s.data.toList[0]? = some 34
  · rw [decide_eq_true hq] at P
    have h1 : 1 ≤ s.size := by
      have := (List.getElem?_eq_some_iff.1 hq).1
      omega
    have hE : Hid (min (1 + qend (s.data.toList.drop 1)) s.size = endL s.data.toList) := by
      show _ = _
      have e := drop_at _ 0 34 hq
      rw [List.drop_zero] at e
      have e2 : endL s.data.toList = 1 + qend (s.data.toList.drop 1) := by conv => lhs; rw [e, end_q]
      have := qend_le _ (s.data.toList.drop 1) (Nat.le_refl _)
      rw [List.length_drop] at this
      omega
    clear hq
    go_enter Tryd.func35, Tryd.ntmps35
    go_wp2_with fail
    go_step3
    go_wp2_with fail
    refine (P.out _).mono ?_
    rintro e w' ⟨rfl, rfl⟩
    go_wp2_with fail
    go_step3
    go_wp2_with fail
    go_loop [4] (fun i => ∃ k : Nat, i = .int .i64 k ∧ k ≤ s.size + 1 ∧ Hid (min (k + qend (s.data.toList.drop k)) s.size = endL s.data.toList)) (fun i => s.size + 2 - (intOf i).toNat)
    case atStart => exact ⟨1, rfl, by omega, hE⟩
    case round =>
      clear hE h1
      obtain ⟨k, rfl, hk, hE⟩ := hrel
      by_cases hlt : k < s.size
      · obtain ⟨c, hc⟩ := get_at' s k hlt
        have k1 := fun W => at_run s k c hc k rfl W
        by_cases h34 : c = 34
        · subst h34
          have R := Lib.hid (show min (k + 1) s.size = endL s.data.toList by have := hE.out; rw [qe_stop _ k hc] at this; exact this)
          have q1 : (((34 : UInt8).toNat : Int) == 34) = true := rfl
          clear hE hc hz
          go_wp2_with fail
          all_goals go_ret
          all_goals exact ⟨ret_int (by have := R.out; omega), rfl⟩
        · have q1 : ((c.toNat : Int) == 34) = false := byte_neq (d := 34) h34
          by_cases h92 : c = 92
          · subst h92
            have R := Lib.hid (show min (k + 2 + qend (s.data.toList.drop (k + 2))) s.size = endL s.data.toList by
              have := hE.out
              by_cases hl : k + 1 < s.data.toList.length
              · rw [qe_esc _ k hc hl] at this
                rw [← this]
                omega
              · rw [qe_last _ k hc hl] at this
                rw [qe_end _ (k + 2) (by omega)]
                omega)
            have q2 : (((92 : UInt8).toNat : Int) == 92) = true := rfl
            clear hE hc hz h34
            go_wp2_with fail
            go_round
            case rel => exact ⟨k + 2, by go_num, by omega, R⟩
            case measure => simp [intOf]; omega
          · have q2 : ((c.toNat : Int) == 92) = false := byte_neq (d := 92) h92
            have R := Lib.hid (show min (k + 1 + qend (s.data.toList.drop (k + 1))) s.size = endL s.data.toList by
              have := hE.out
              rw [qe_step _ k c hc h34 h92] at this
              rw [← this]
              omega)
            clear hE hc hz h34 h92
            go_wp2_with fail
            go_round
            case rel => exact ⟨k + 1, by go_num, by omega, R⟩
            case measure => simp [intOf]; omega
      · have R := Lib.hid (show min k s.size = endL s.data.toList by have := hE.out; rw [qe_end _ k (by omega)] at this; exact this)
        have d : decide (k < s.size) = false := by rw [decide_eq_false_iff_not]; exact hlt
        clear hE hz hlt
        go_wp2_with fail
        all_goals (try rw [Exit.noGoto_ret])
        all_goals go_ret
        all_goals exact ⟨ret_int (by have := R.out; omega), rfl⟩
  · rw [decide_eq_false hq] at P
    have hE : Hid (0 + ((s.data.toList.drop 0).takeWhile (· != 44)).length = endL s.data.toList) := by
      show _ = _
      rw [end_p _ hq, List.drop_zero]
      omega
    clear hq
    go_enter Tryd.func35, Tryd.ntmps35
    go_wp2_with fail
    go_step3
    go_wp2_with fail
    refine (P.out _).mono ?_
    rintro e w' ⟨rfl, rfl⟩
    go_wp2_with fail
    go_step3
    go_wp2_with fail
    go_loop [4] (fun i => ∃ k : Nat, i = .int .i64 k ∧ k ≤ s.size ∧ Hid (k + ((s.data.toList.drop k).takeWhile (· != 44)).length = endL s.data.toList)) (fun i => s.size + 2 - (intOf i).toNat)
    case atStart => exact ⟨0, rfl, by omega, hE⟩
    case round =>
      clear hE
      obtain ⟨k, rfl, hk, hE⟩ := hrel
      by_cases hlt : k < s.size
      · obtain ⟨c, hc⟩ := get_at' s k hlt
        have k1 := fun W => at_run s k c hc k rfl W
        by_cases h44 : c = 44
        · subst h44
          have R := Lib.hid (show k = endL s.data.toList by have := hE.out; rw [tw_stop _ k hc] at this; exact this)
          have q1 : (((44 : UInt8).toNat : Int) == 44) = true := rfl
          clear hE hc hz
          go_wp2_with fail
          all_goals go_ret
          all_goals exact ⟨ret_int (by have := R.out; omega), rfl⟩
        · have q1 : ((c.toNat : Int) == 44) = false := byte_neq (d := 44) h44
          have R := Lib.hid (show k + 1 + ((s.data.toList.drop (k + 1)).takeWhile (· != 44)).length = endL s.data.toList by
            have := hE.out
            rw [tw_step _ k c hc h44] at this
            rw [← this]
            omega)
          clear hE hc hz h44
          go_wp2_with fail
          go_round
          case rel => exact ⟨k + 1, by go_num, by omega, R⟩
          case measure => simp [intOf]; omega
      · have R := Lib.hid (show k = endL s.data.toList by
          have := hE.out
          rw [List.drop_eq_nil_of_le (by omega)] at this
          exact this)
        have d : decide (k < s.size) = false := by rw [decide_eq_false_iff_not]; exact hlt
        clear hE hz hlt
        go_wp2_with fail
        all_goals (try rw [Exit.noGoto_ret])
        all_goals go_ret
        all_goals exact ⟨ret_int (by have := R.out; omega), rfl⟩
set_option maxHeartbeats 1000000 in
theorem rend_any (s : ByteArray) (i : Nat) (hi : i ≤ s.size) (hs : s.size ≤ 1099511627776) (w : World) : Calls Tryd.prog 36 #[.string s, .int .i64 (i : Int)] w fun e w' => e = .returned (.int .i64 ((i + endL (s.data.toList.drop i) : Nat) : Int)) ∧ w = w' := by
  have hz := sz_list s
  by_cases hq : s.data.toList[i]? = some 34
  · have hi2 : i < s.size := by
      have := (List.getElem?_eq_some_iff.1 hq).1
      omega
    have k0 := fun W => at_run s i 34 hq i rfl W
    have hE : Hid (min (i + 1 + qend (s.data.toList.drop (i + 1))) s.size = i + endL (s.data.toList.drop i)) := by
      show _ = _
      have e2 : endL (s.data.toList.drop i) = 1 + qend (s.data.toList.drop (i + 1)) := by rw [drop_at _ i 34 hq, end_q]
      have := qend_le _ (s.data.toList.drop (i + 1)) (Nat.le_refl _)
      rw [List.length_drop] at this
      omega
    generalize i + endL (s.data.toList.drop i) = E at hE ⊢
    clear hq
    go_enter Tryd.func36, Tryd.ntmps36
    go_wp2_with fail
    go_loop [1] (fun i => ∃ k : Nat, i = .int .i64 k ∧ k ≤ s.size + 1 ∧ Hid (min (k + qend (s.data.toList.drop k)) s.size = E)) (fun i => s.size + 2 - (intOf i).toNat)
    case atStart => exact ⟨i + 1, by go_num, by omega, hE⟩
    case round =>
      clear hE hi hi2 k0
      obtain ⟨k, rfl, hk, hE⟩ := hrel
      by_cases hlt : k < s.size
      · obtain ⟨c, hc⟩ := get_at' s k hlt
        have k1 := fun W => at_run s k c hc k rfl W
        by_cases h34 : c = 34
        · subst h34
          have R := Lib.hid (show min (k + 1) s.size = E by have := hE.out; rw [qe_stop _ k hc] at this; exact this)
          have q1 : (((34 : UInt8).toNat : Int) != 34) = false := rfl
          clear hE hc hz
          go_wp2_with fail
          all_goals go_ret
          all_goals exact ⟨ret_int (by have := R.out; omega), rfl⟩
        · have q1 : ((c.toNat : Int) != 34) = true := byte_bne (d := 34) h34
          by_cases h92 : c = 92
          · subst h92
            have R := Lib.hid (show min (k + 2 + qend (s.data.toList.drop (k + 2))) s.size = E by
              have := hE.out
              by_cases hl : k + 1 < s.data.toList.length
              · rw [qe_esc _ k hc hl] at this
                rw [← this]
                omega
              · rw [qe_last _ k hc hl] at this
                rw [qe_end _ (k + 2) (by omega)]
                omega)
            have q2 : (((92 : UInt8).toNat : Int) == 92) = true := rfl
            clear hE hc hz h34
            go_wp2_with fail
            go_round
            case rel => exact ⟨k + 2, by go_num, by omega, R⟩
            case measure => simp [intOf]; omega
          · have q2 : ((c.toNat : Int) == 92) = false := byte_neq (d := 92) h92
            have R := Lib.hid (show min (k + 1 + qend (s.data.toList.drop (k + 1))) s.size = E by
              have := hE.out
              rw [qe_step _ k c hc h34 h92] at this
              rw [← this]
              omega)
            clear hE hc hz h34 h92
            go_wp2_with fail
            go_round
            case rel => exact ⟨k + 1, by go_num, by omega, R⟩
            case measure => simp [intOf]; omega
      · have R := Lib.hid (show min (k + 1) s.size = E by have := hE.out; rw [qe_end _ k (by omega)] at this; omega)
        have d : decide (k < s.size) = false := by rw [decide_eq_false_iff_not]; exact hlt
        clear hE hz hlt
        go_wp2_with fail
        all_goals go_ret
        all_goals exact ⟨ret_int (by have := R.out; omega), rfl⟩
  · have hE : Hid (i + ((s.data.toList.drop i).takeWhile (· != 44)).length = i + endL (s.data.toList.drop i)) := by
      show _ = _
      rw [end_p _ (by rw [List.getElem?_drop]; exact hq)]
    have hways : decide (i < s.size) = false ∨ (i < s.size ∧ ∃ c : UInt8, s.data.toList[i]? = some c ∧ ((c.toNat : Int) == 34) = false) := by
      by_cases h : i < s.size
      · obtain ⟨c, hc⟩ := get_at' s i h
        exact Or.inr ⟨h, c, hc, byte_neq (d := 34) (fun e => hq (by rw [hc, e]))⟩
      · exact Or.inl (by rw [decide_eq_false_iff_not]; exact h)
    generalize i + endL (s.data.toList.drop i) = E at hE ⊢
    clear hq
    have K : Hid (∀ (P : Prop), ((decide (i < s.size) = false → P) → (∀ c : UInt8, i < s.size → (∀ W, (Instr.index 9 (.string s) (.int .i64 i)).run Tryd.prog W = .ok (.int .u8 c.toNat) W) → ((c.toNat : Int) == 34) = false → P) → P)) := by
      intro P h1 h2
      rcases hways with h | ⟨h, c, hc, hn⟩
      · exact h1 h
      · exact h2 c h (fun W => at_run s i c hc i rfl W) hn
    clear hways
    apply K.out
    all_goals clear K
    all_goals intros
    all_goals
      go_enter Tryd.func36, Tryd.ntmps36
      go_wp2_with fail
      go_loop [1] (fun i => ∃ k : Nat, i = .int .i64 k ∧ k ≤ s.size ∧ Hid (k + ((s.data.toList.drop k).takeWhile (· != 44)).length = E)) (fun i => s.size + 2 - (intOf i).toNat)
      case atStart => exact ⟨i, rfl, by omega, hE⟩
      case round =>
        clear hE hi
        rename_i hE0
        clear hE0
        obtain ⟨k, rfl, hk, hE⟩ := hrel
        by_cases hlt : k < s.size
        · obtain ⟨c, hc⟩ := get_at' s k hlt
          have k1 := fun W => at_run s k c hc k rfl W
          by_cases h44 : c = 44
          · subst h44
            have R := Lib.hid (show k = E by have := hE.out; rw [tw_stop _ k hc] at this; exact this)
            have q1 : (((44 : UInt8).toNat : Int) != 44) = false := rfl
            clear hE hc hz
            go_wp2_with fail
            all_goals go_ret
            all_goals exact ⟨ret_int (by have := R.out; omega), rfl⟩
          · have q1 : ((c.toNat : Int) != 44) = true := byte_bne (d := 44) h44
            have R := Lib.hid (show k + 1 + ((s.data.toList.drop (k + 1)).takeWhile (· != 44)).length = E by
              have := hE.out
              rw [tw_step _ k c hc h44] at this
              rw [← this]
              omega)
            clear hE hc hz h44
            go_wp2_with fail
            go_round
            case rel => exact ⟨k + 1, by go_num, by omega, R⟩
            case measure => simp [intOf]; omega
        · have R := Lib.hid (show k = E by
            have := hE.out
            rw [List.drop_eq_nil_of_le (by omega)] at this
            exact this)
          have d : decide (k < s.size) = false := by rw [decide_eq_false_iff_not]; exact hlt
          clear hE hz hlt
          go_wp2_with fail
          all_goals go_ret
          all_goals exact ⟨ret_int (by have := R.out; omega), rfl⟩
end Go.Proofs.YtpdekihfgglmkaaDoor
