/-
  The functions of package clock that read a text digit by digit: what each call answers; nothing that existed before the call has changed behind it. Condition: the lengths that each theorem names.
-/
import Derived.Test.YtalghfmdaifcgaaDoorText
import Derived.Laws.RangeString
import Derived.Laws.RangeAny
namespace Go.Proofs.YtalghfmdaifcgaaDoor
open Go.RowKit

theorem run_at (s : ByteArray) (i : Nat) (h : i < s.size) (W : World) : (Instr.index 9 (.string s) (.int .i64 i)).run Tryd.prog W = .ok (.int .u8 s[i].toNat) W := by
  go_simp
theorem isDigit_yes (r : Int) (h0 : 48 ≤ r) (h1 : r ≤ 57) (w : World) :
    Calls Tryd.prog 66 #[.int .i32 r] w fun e w' => e = .returned (.bool true) ∧ w = w' := by
  go_enter Tryd.func66, Tryd.ntmps66
  go_wp2
  go_ret
  exact ⟨rfl, rfl⟩
theorem isDigit_no (r : Int) (h : r < 48 ∨ 57 < r) (w : World) :
    Calls Tryd.prog 66 #[.int .i32 r] w fun e w' => e = .returned (.bool false) ∧ w = w' := by
  rcases h with h | h
  · go_enter Tryd.func66, Tryd.ntmps66
    go_wp2
    go_ret
    exact ⟨rfl, rfl⟩
  · have h0 : 48 ≤ r := by omega
    have hd : decide (r ≤ 57) = false := by simp; omega
    go_enter Tryd.func66, Tryd.ntmps66
    go_wp2
    go_ret
    exact ⟨rfl, rfl⟩

theorem below_iter (w : World) (s : ByteArray) (k : Nat) : Below w.heap.size w (w.iter s k) := (Below.refl _ _).alloc (Nat.le_refl _) _

theorem value_any (s : ByteArray) (hd : digs s.data.toList = true) (hl : s.size ≤ 6) (w : World) :
    Calls Tryd.prog 62 #[.string s] w fun e w' => e = .returned (.int .i64 (valN s.data.toList)) ∧ Below w.heap.size w w' := by
  have HD := Lib.hid hd
  clear hd
  go_enter Tryd.func62, Tryd.ntmps62
  go_wp2
  go_loopw [3] (fun n w' => ∃ pos : Nat, w' = w.iter s pos ∧ n = .int .i64 (valN (s.data.toList.take pos)) ∧ pos ≤ s.size) (fun _ w' => s.size - w'.iterPos w.heap.size)
  case atStart => exact ⟨0, rfl, rfl, Nat.zero_le _⟩
  case round =>
    obtain ⟨pos, rfl, rfl, hle⟩ := hrel
    by_cases hp : pos < s.size
    · have hc := digs_at s pos hp HD.out
      have hv : valN (s.data.toList.take pos) < 1000000 := by
        have h1 := valN_lt _ (digs_take _ pos HD.out)
        have h2 : (s.data.toList.take pos).length ≤ 6 := Nat.le_trans (List.length_take_le _ _) (by omega)
        exact Nat.lt_of_lt_of_le h1 (Nat.pow_le_pow_right (by decide) h2)
      have hs := Lib.hid (valN_snoc (s.data.toList.take pos) s[pos])
      have ht := Lib.hid (take_snoc s pos hp)
      have hnx : ∀ ty, (Instr.next (.pointer (some ⟨w.heap.size, 0, none⟩)) true ty).run Tryd.prog (w.iter s pos) = _ := fun ty => run_next_ascii w s pos ty hp (by omega)
      go_wp2
      go_roundw
      case rel => exact ⟨pos + 1, rfl, by rw [ht.out, hs.out]; go_num, by omega⟩
      case measure => simp; omega
    · have hnx : ∀ ty, (Instr.next (.pointer (some ⟨w.heap.size, 0, none⟩)) true ty).run Tryd.prog (w.iter s pos) = _ := fun ty => run_next_end w s pos ty hp
      have he := Lib.hid (List.take_of_length_le (l := s.data.toList) (i := pos) (by simpa using hp))
      go_wp2
      go_ret
      exact ⟨by rw [he.out]; rfl, below_iter _ _ _⟩

theorem hasForm_len (s : ByteArray) (h8 : s.size ≠ 8) (w : World) :
    Calls Tryd.prog 60 #[.string s] w fun e w' => e = .returned (.bool false) ∧ Below w.heap.size w w' := by
  have h : ((s.size : Int) == 8) = false := by rw [beq_eq_false_iff_ne]; omega
  have h' : ((s.size : Int) != 8) = true := by rw [bne, h]; rfl
  go_enter Tryd.func60, Tryd.ntmps60
  go_wp2
  all_goals go_ret
  all_goals exact ⟨rfl, Below.refl _ _⟩

theorem beq_false {a b : Int} (h : a ≠ b) : (a == b) = false := by rw [beq_eq_false_iff_ne]; exact h
theorem bne_true {a b : Int} (h : a ≠ b) : (a != b) = true := by rw [bne, beq_false h]; rfl

/-- One byte that may stand at its place. -/
theorem form_round_ok (s : ByteArray) (pos : Nat) (hp : pos < s.size) (ho : okAt pos s[pos] = true) : s[pos].toNat < 128 ∧ (pos = 2 ∨ pos = 5 → s[pos].toNat = 58) ∧ (¬ (pos = 2 ∨ pos = 5) → 48 ≤ s[pos].toNat ∧ s[pos].toNat ≤ 57) := by
  by_cases hk : pos = 2 ∨ pos = 5
  · have := (okAt_colon pos _ hk).1 ho
    exact ⟨by omega, fun _ => this, fun h => absurd hk h⟩
  · have := (okAt_digit pos _ hk).1 ho
    exact ⟨by omega, fun h => absurd h hk, fun _ => this⟩

set_option maxHeartbeats 400000 in
theorem hasForm_yes (s : ByteArray) (hf : timeForm s.data.toList = true) (w : World) :
    Calls Tryd.prog 60 #[.string s] w fun e w' => e = .returned (.bool true) ∧ Below w.heap.size w w' := by
  have h8 : s.size = 8 := (form_at _ hf).1
  have HD := Lib.hid (form_at _ hf).2
  clear hf
  have h : ((s.size : Int) == 8) = true := by rw [beq_iff_eq]; omega
  have h' : ((s.size : Int) != 8) = false := by rw [bne, h]; rfl
  have H8 := Lib.hid h8
  clear h8
  go_enter Tryd.func60, Tryd.ntmps60
  go_wp2
  go_loopw [] (fun w' => ∃ pos : Nat, w' = w.iter s pos) (fun w' => s.size - w'.iterPos w.heap.size)
  case atStart => exact ⟨0, rfl⟩
  case round =>
    clear h h'
    obtain ⟨pos, rfl⟩ := hrel
    by_cases hp : pos < s.size
    · obtain ⟨ha, hc, hd⟩ := form_round_ok s pos hp (HD.out pos _ (list_at s pos hp))
      have hnx : ∀ ty, (Instr.next (.pointer (some ⟨w.heap.size, 0, none⟩)) true ty).run Tryd.prog (w.iter s pos) = _ := fun ty => run_next_ascii w s pos ty hp ha
      by_cases h2 : pos = 2
      · have hc := hc (Or.inl h2)
        have b2 : ((pos : Int) == 2) = true := by rw [beq_iff_eq]; omega
        have b3 : (((s[pos].toNat : Nat) : Int) != 58) = false := by rw [hc]; rfl
        have HH := Lib.hid (And.intro h2 hc)
        clear h2 hc hd
        go_wp2
        go_roundw
        case rel => exact ⟨pos + 1, rfl⟩
        case measure => simp; omega
      · by_cases h5 : pos = 5
        · have hc := hc (Or.inr h5)
          have b2 : ((pos : Int) == 2) = false := beq_false (by omega)
          have b5 : ((pos : Int) == 5) = true := by rw [beq_iff_eq]; omega
          have b3 : (((s[pos].toNat : Nat) : Int) != 58) = false := by rw [hc]; rfl
          have HH := Lib.hid (And.intro h5 hc)
          clear h2 h5 hc hd
          go_wp2
          go_roundw
          case rel => exact ⟨pos + 1, rfl⟩
          case measure => simp; omega
        · have hd := hd (by omega)
          have b2 : ((pos : Int) == 2) = false := beq_false (by omega)
          have b5 : ((pos : Int) == 5) = false := beq_false (by omega)
          clear hc
          go_wp2_with (go_at_call 66; refine (isDigit_yes _ (by omega) (by omega) _).mono ?_; rintro e w' ⟨rfl, rfl⟩)
          go_roundw
          case rel => exact ⟨pos + 1, rfl⟩
          case measure => simp; omega
    · have hnx : ∀ ty, (Instr.next (.pointer (some ⟨w.heap.size, 0, none⟩)) true ty).run Tryd.prog (w.iter s pos) = _ := fun ty => run_next_end w s pos ty hp
      go_wp2
      go_ret
      exact ⟨rfl, below_iter _ _ _⟩

/-- The rune at a place whose byte may not stand there. -/
theorem bad_rune (s : ByteArray) (pos : Nat) (hp : pos < s.size) (hx : okAt pos s[pos] = false) :
    (pos = 2 ∨ pos = 5 → (Utf8.decode s pos).1 ≠ 58) ∧ (¬ (pos = 2 ∨ pos = 5) → (Utf8.decode s pos).1 < 48 ∨ 57 < (Utf8.decode s pos).1) := by
  by_cases ha : s[pos].toNat < 128
  · rw [decode_ascii s pos hp ha]
    refine ⟨fun hk he => ?_, fun hk => ?_⟩
    · rw [(okAt_colon pos _ hk).2 he] at hx; cases hx
    · by_cases hd : 48 ≤ s[pos].toNat ∧ s[pos].toNat ≤ 57
      · rw [(okAt_digit pos _ hk).2 hd] at hx; cases hx
      · show s[pos].toNat < 48 ∨ 57 < s[pos].toNat
        omega
  · have := (decode_high s pos hp (by omega)).1
    exact ⟨fun _ => by omega, fun _ => by omega⟩

set_option maxHeartbeats 400000 in
theorem hasForm_no (s : ByteArray) (hf : timeForm s.data.toList = false) (w : World) :
    Calls Tryd.prog 60 #[.string s] w fun e w' => e = .returned (.bool false) ∧ Below w.heap.size w w' := by
  by_cases h8 : s.size ≠ 8
  · exact hasForm_len s h8 w
  have h8 : s.size = 8 := by omega
  have HD := Lib.hid hf
  clear hf
  have h : ((s.size : Int) == 8) = true := by rw [beq_iff_eq]; omega
  have h' : ((s.size : Int) != 8) = false := by rw [bne, h]; rfl
  have H8 := Lib.hid h8
  clear h8
  go_enter Tryd.func60, Tryd.ntmps60
  go_wp2
  go_loopw [] (fun w' => ∃ pos : Nat, w' = w.iter s pos ∧ Hid (∀ k c, k < pos → s.data.toList[k]? = some c → okAt k c = true)) (fun w' => s.size - w'.iterPos w.heap.size)
  case atStart => exact ⟨0, rfl, Lib.hid (fun k c hk => absurd hk (Nat.not_lt_zero _))⟩
  case round =>
    clear h h'
    obtain ⟨pos, rfl, ht⟩ := hrel
    by_cases hp : pos < s.size
    · cases hx : okAt pos s[pos] with
      | true =>
        obtain ⟨ha, hc, hd⟩ := form_round_ok s pos hp hx
        have hst : Hid (∀ k c, k < pos + 1 → s.data.toList[k]? = some c → okAt k c = true) := by
          intro k c hk hl
          by_cases hkp : k < pos
          · exact ht.out k c hkp hl
          · obtain rfl : k = pos := by omega
            rw [list_at s k hp] at hl
            cases hl
            exact hx
        clear hx
        have hnx : ∀ ty, (Instr.next (.pointer (some ⟨w.heap.size, 0, none⟩)) true ty).run Tryd.prog (w.iter s pos) = _ := fun ty => run_next_ascii w s pos ty hp ha
        by_cases h2 : pos = 2
        · have hc := hc (Or.inl h2)
          have b2 : ((pos : Int) == 2) = true := by rw [beq_iff_eq]; omega
          have b3 : (((s[pos].toNat : Nat) : Int) != 58) = false := by rw [hc]; rfl
          have HH := Lib.hid (And.intro h2 hc)
          clear h2 hc hd
          go_wp2
          go_roundw
          case rel => exact ⟨pos + 1, rfl, hst⟩
          case measure => simp; omega
        · by_cases h5 : pos = 5
          · have hc := hc (Or.inr h5)
            have b2 : ((pos : Int) == 2) = false := beq_false (by omega)
            have b5 : ((pos : Int) == 5) = true := by rw [beq_iff_eq]; omega
            have b3 : (((s[pos].toNat : Nat) : Int) != 58) = false := by rw [hc]; rfl
            have HH := Lib.hid (And.intro h5 hc)
            clear h2 h5 hc hd
            go_wp2
            go_roundw
            case rel => exact ⟨pos + 1, rfl, hst⟩
            case measure => simp; omega
          · have hd := hd (by omega)
            have b2 : ((pos : Int) == 2) = false := beq_false (by omega)
            have b5 : ((pos : Int) == 5) = false := beq_false (by omega)
            clear hc
            go_wp2_with (go_at_call 66; refine (isDigit_yes _ (by omega) (by omega) _).mono ?_; rintro e w' ⟨rfl, rfl⟩)
            go_roundw
            case rel => exact ⟨pos + 1, rfl, hst⟩
            case measure => simp; omega
      | false =>
        obtain ⟨hc, hd⟩ := bad_rune s pos hp hx
        clear hx
        have hnx : ∀ ty, (Instr.next (.pointer (some ⟨w.heap.size, 0, none⟩)) true ty).run Tryd.prog (w.iter s pos) = _ := fun ty => run_next_any w s pos ty hp
        by_cases h2 : pos = 2
        · have hc := hc (Or.inl h2)
          have b2 : ((pos : Int) == 2) = true := by rw [beq_iff_eq]; omega
          have b3 : ((((Utf8.decode s pos).1 : Nat) : Int) != 58) = true := bne_true (by omega)
          have HH := Lib.hid (And.intro h2 hc)
          clear h2 hc hd
          go_wp2
          go_ret
          exact ⟨rfl, below_iter _ _ _⟩
        · by_cases h5 : pos = 5
          · have hc := hc (Or.inr h5)
            have b2 : ((pos : Int) == 2) = false := beq_false (by omega)
            have b5 : ((pos : Int) == 5) = true := by rw [beq_iff_eq]; omega
            have b3 : ((((Utf8.decode s pos).1 : Nat) : Int) != 58) = true := bne_true (by omega)
            have HH := Lib.hid (And.intro h5 hc)
            clear h2 h5 hc hd
            go_wp2
            go_ret
            exact ⟨rfl, below_iter _ _ _⟩
          · have hd := hd (by omega)
            have b2 : ((pos : Int) == 2) = false := beq_false (by omega)
            have b5 : ((pos : Int) == 5) = false := beq_false (by omega)
            clear hc
            go_wp2_with (go_at_call 66; refine (isDigit_no _ (by omega) _).mono ?_; rintro e w' ⟨rfl, rfl⟩)
            go_ret
            exact ⟨rfl, below_iter _ _ _⟩
    · have hfm := form_mk s.data.toList H8.out (fun k c hl => ht.out k c (by have := (List.getElem?_eq_some_iff.1 hl).1; have h9 : k < s.size := this; omega) hl)
      rw [HD.out] at hfm
      cases hfm

end Go.Proofs.YtalghfmdaifcgaaDoor
