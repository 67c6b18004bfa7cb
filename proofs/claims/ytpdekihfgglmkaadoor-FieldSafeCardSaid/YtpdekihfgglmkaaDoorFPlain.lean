/-
  The functions of package field and of its reference that look at single bytes, and at whether a string is plain: what each call answers; nothing that existed before the call has changed behind it. Condition: a string of at most 2^40 bytes.
-/
import Derived.Test.YtpdekihfgglmkaaDoorOwn
import Derived.Test.YtpdekihfgglmkaaDoorRunes
import Derived.Test.YtpdekihfgglmkaaDoorFldP
namespace Go.Proofs.YtpdekihfgglmkaaDoor
open Go.RowKit

/-! ### Single bytes -/
theorem isControl_yes (c : Int) (h : c < 32 ∨ c = 127) (w : World) : Calls Tryd.prog 40 #[.int .i32 c] w fun e w' => e = .returned (.bool true) ∧ w = w' := by
  by_cases h0 : c < 32
  · go_enter Tryd.func40, Tryd.ntmps40
    go_wp2_with fail
    go_ret
    exact ⟨rfl, rfl⟩
  · have h1 : c = 127 := by omega
    subst h1
    go_enter Tryd.func40, Tryd.ntmps40
    go_wp2_with fail
    go_ret
    exact ⟨rfl, rfl⟩
theorem isControl_no (c : Int) (h0 : 32 ≤ c) (h1 : c ≠ 127) (w : World) : Calls Tryd.prog 40 #[.int .i32 c] w fun e w' => e = .returned (.bool false) ∧ w = w' := by
  have d : decide (c < 32) = false := by simp; omega
  have q : (c == 127) = false := beq_false h1
  go_enter Tryd.func40, Tryd.ntmps40
  go_wp2_with fail
  go_ret
  exact ⟨rfl, rfl⟩
theorem control_yes (c : Int) (h : c < 32 ∨ c = 127) (w : World) : Calls Tryd.prog 31 #[.int .u8 c] w fun e w' => e = .returned (.bool true) ∧ w = w' := by
  by_cases h0 : c < 32
  · go_enter Tryd.func31, Tryd.ntmps31
    go_wp2_with fail
    go_ret
    exact ⟨rfl, rfl⟩
  · have h1 : c = 127 := by omega
    subst h1
    go_enter Tryd.func31, Tryd.ntmps31
    go_wp2_with fail
    go_ret
    exact ⟨rfl, rfl⟩
theorem control_no (c : Int) (h0 : 32 ≤ c) (h1 : c ≠ 127) (w : World) : Calls Tryd.prog 31 #[.int .u8 c] w fun e w' => e = .returned (.bool false) ∧ w = w' := by
  have d : decide (c < 32) = false := by simp; omega
  have q : (c == 127) = false := beq_false h1
  go_enter Tryd.func31, Tryd.ntmps31
  go_wp2_with fail
  go_ret
  exact ⟨rfl, rfl⟩
theorem hex_any (n : Nat) (h : n < 16) (w : World) : Calls Tryd.prog 32 #[.int .u8 (n : Int)] w fun e w' => e = .returned (.int .u8 ((hexD n).toNat : Int)) ∧ w = w' := by
  have hx := hexD_nat n h
  by_cases h0 : n < 10
  · rw [if_pos h0] at hx
    have HX := Lib.hid hx
    clear hx
    have h1 : (n : Int) < 10 := by omega
    go_enter Tryd.func32, Tryd.ntmps32
    go_wp2_with fail
    go_ret
    exact ⟨ret_int (by have := HX.out; omega), rfl⟩
  · rw [if_neg h0] at hx
    have HX := Lib.hid hx
    clear hx
    have h1 : decide ((n : Int) < 10) = false := by simp; omega
    have h2 : (10 : Int) ≤ n := by omega
    have h3 : (n : Int) ≤ 15 := by omega
    clear h0 h
    go_enter Tryd.func32, Tryd.ntmps32
    go_wp2_with fail
    go_ret
    exact ⟨ret_int (by have := HX.out; omega), rfl⟩

/-! ### Plain strings -/
/-- A rune that no plain string holds. -/
def badR (r : Nat) : Bool := decide (r = 44 ∨ r = 34 ∨ r = 92 ∨ r < 32 ∨ r = 127)
theorem badR_pln (c : UInt8) : pln c = !(badR c.toNat) := by
  rw [Bool.eq_iff_iff, pln_iff]
  unfold badR
  simp
theorem rune_step (s : ByteArray) (pos : Nat) (hp : pos < s.size) (ht : (s.data.toList.take pos).all pln = true) (w : World) :
    ∃ r p : Nat, (∀ ty, (Instr.next (.pointer (some ⟨w.heap.size, 0, none⟩)) true ty).run Tryd.prog (w.iter s pos) = .ok (.tuple #[.bool true, .int .i64 pos, .int .i32 r]) (w.iter s p)) ∧ pos < p ∧ p ≤ s.size ∧ r ≤ 2147483647 ∧
      (badR r = true → s.data.toList.all pln = false) ∧ (badR r = false → (s.data.toList.take p).all pln = true) := by
  have hat := list_at s pos hp
  by_cases ha : s[pos].toNat < 128
  · refine ⟨s[pos].toNat, pos + 1, fun ty => run_next_ascii w s pos ty hp ha, by omega, by omega, by omega, fun hb => ?_, fun hb => ?_⟩
    · exact all_stop hat (by rw [badR_pln, hb]; rfl)
    · exact all_take pln _ pos _ hat ht (by rw [badR_pln, hb]; rfl)
  · have hh := decode_high s pos hp (by omega)
    have hle := decode_le s pos
    have hin := skip_in s pos hp
    refine ⟨(Utf8.decode s pos).1, pos + (Utf8.decode s pos).2, fun ty => run_next_any w s pos ty hp, by omega, hin, hle, fun hb => ?_, fun _ => ?_⟩
    · have : badR (Utf8.decode s pos).1 = false := by unfold badR; simp; omega
      rw [this] at hb
      cases hb
    · exact take_skip pln pln_high s pos hp (by omega) ht
theorem isPlain_any (s : ByteArray) (hs : s.size ≤ 1099511627776) (w : World) : Calls Tryd.prog 27 #[.string s] w fun e w' => e = .returned (.bool (plainB s.data.toList)) ∧ Below w.heap.size w w' := by
  have hpl := plain_iff s.data.toList
  rw [sz_list] at hpl
  have hem := nil_iff s
  by_cases h0 : s.size = 0
  · have e : plainB s.data.toList = false := by
      cases hq : plainB s.data.toList with
      | false => rfl
      | true => exact absurd (List.length_eq_zero_iff.1 (by rw [sz_list]; exact h0)) (hpl.1 hq).2.1
    have he : s.toList.isEmpty = true := by rw [hem]; simpa using h0
    clear hem hpl h0
    rw [e]
    go_enter Tryd.func27, Tryd.ntmps27
    go_wp2
    go_ret
    exact ⟨rfl, Below.refl _ _⟩
  have he : s.toList.isEmpty = false := by rw [hem]; simpa using h0
  have h1 : 1 ≤ s.size := by omega
  obtain ⟨c, hc⟩ := get_at' s 0 (by omega)
  obtain ⟨d, hd⟩ := get_at' s (s.size - 1) (by omega)
  rw [hc, hd] at hpl
  have k1 := fun W => at_run s 0 c hc 0 rfl W
  have k2 := fun W => at_run s (s.size - 1) d hd ((s.size : Int) - 1) (by omega) W
  have hcb := c.toNat_lt
  have hdb := d.toNat_lt
  have eq32 : ∀ x : UInt8, x.toNat = 32 → x = 32 := fun x h => UInt8.toNat_inj.1 h
  have HP := Lib.hid hpl
  have E32 := Lib.hid eq32
  clear hpl eq32 hem h0 hc hd
  by_cases hc32 : c.toNat = 32
  · have e : plainB s.data.toList = false := by
      cases hq : plainB s.data.toList with
      | false => rfl
      | true => exact absurd (by rw [E32.out c hc32]) (HP.out.1 hq).2.2.1
    have q : ((c.toNat : Int) == 32) = true := beq_true (by omega)
    clear hc32
    rw [e]
    go_enter Tryd.func27, Tryd.ntmps27
    go_wp2
    go_ret
    exact ⟨rfl, Below.refl _ _⟩
  have q : ((c.toNat : Int) == 32) = false := beq_false (by omega)
  by_cases hd32 : d.toNat = 32
  · have e : plainB s.data.toList = false := by
      cases hq : plainB s.data.toList with
      | false => rfl
      | true => exact absurd (by rw [E32.out d hd32]) (HP.out.1 hq).2.2.2
    have q2 : ((d.toNat : Int) == 32) = true := beq_true (by omega)
    clear hd32 hc32
    rw [e]
    go_enter Tryd.func27, Tryd.ntmps27
    go_wp2
    go_ret
    exact ⟨rfl, Below.refl _ _⟩
  have q2 : ((d.toNat : Int) == 32) = false := beq_false (by omega)
  have EP : Hid (s.data.toList.all pln = plainB s.data.toList) := by
    show _ = _
    cases hq : s.data.toList.all pln with
    | false => rw [plain_no_all _ hq]
    | true =>
      refine (HP.out.2 ⟨hq, fun e => ?_, fun e => ?_, fun e => ?_⟩).symm
      · have := sz_list s; rw [e] at this; simp at this; omega
      · have := Option.some.inj e; rw [this] at hc32; exact hc32 rfl
      · have := Option.some.inj e; rw [this] at hd32; exact hd32 rfl
  clear HP E32 hc32 hd32
  go_enter Tryd.func27, Tryd.ntmps27
  go_wp2
  go_loopw [] (fun w' => ∃ pos : Nat, w' = w.iter s pos ∧ pos ≤ s.size ∧ Hid ((s.data.toList.take pos).all pln = true)) (fun w' => s.size - w'.iterPos w.heap.size)
  case atStart => exact ⟨0, rfl, Nat.zero_le _, Lib.hid rfl⟩
  case round =>
    clear he k1 k2 q q2
    obtain ⟨pos, rfl, hle, ht⟩ := hrel
    by_cases hp : pos < s.size
    · obtain ⟨r, p, hnx, hpp, hps, hrl, hbad, hgood⟩ := rune_step s pos hp ht.out w
      cases hb : badR r with
      | true =>
        have hres := Lib.hid (hbad hb)
        clear hbad hgood
        unfold badR at hb
        rw [decide_eq_true_iff] at hb
        by_cases r1 : r = 44
        · have q1 : ((r : Int) == 44) = true := beq_true (by omega)
          clear hb r1
          go_wp2_with fail
          go_ret
          exact ⟨ret_bool (by rw [← EP.out, hres.out]), below_iter _ _ _⟩
        have q1 : ((r : Int) == 44) = false := beq_false (by omega)
        by_cases r2 : r = 34
        · have q2 : ((r : Int) == 34) = true := beq_true (by omega)
          clear hb r1 r2
          go_wp2_with fail
          go_ret
          exact ⟨ret_bool (by rw [← EP.out, hres.out]), below_iter _ _ _⟩
        have q2 : ((r : Int) == 34) = false := beq_false (by omega)
        by_cases r3 : r = 92
        · have q3 : ((r : Int) == 92) = true := beq_true (by omega)
          clear hb r1 r2 r3
          go_wp2_with fail
          go_ret
          exact ⟨ret_bool (by rw [← EP.out, hres.out]), below_iter _ _ _⟩
        have q3 : ((r : Int) == 92) = false := beq_false (by omega)
        have C := Lib.hid (fun w => isControl_yes (r : Int) (by omega) w)
        clear hb r1 r2 r3
        go_wp2_with fail
        refine (C.out _).mono ?_
        rintro e w' ⟨rfl, rfl⟩
        go_wp2_with fail
        go_ret
        exact ⟨ret_bool (by rw [← EP.out, hres.out]), below_iter _ _ _⟩
      | false =>
        have hst := Lib.hid (hgood hb)
        clear hbad hgood
        unfold badR at hb
        rw [decide_eq_false_iff_not] at hb
        have q1 : ((r : Int) == 44) = false := beq_false (by omega)
        have q2 : ((r : Int) == 34) = false := beq_false (by omega)
        have q3 : ((r : Int) == 92) = false := beq_false (by omega)
        have C := Lib.hid (fun w => isControl_no (r : Int) (by omega) (by omega) w)
        clear hb
        go_wp2_with fail
        refine (C.out _).mono ?_
        rintro e w' ⟨rfl, rfl⟩
        go_wp2_with fail
        go_roundw
        case rel => exact ⟨p, rfl, hps, hst⟩
        case measure => simp; omega
    · have hnx : ∀ ty, (Instr.next (.pointer (some ⟨w.heap.size, 0, none⟩)) true ty).run Tryd.prog (w.iter s pos) = _ := fun ty => run_next_end w s pos ty hp
      have hall := Lib.hid (show s.data.toList.all pln = true by have := ht.out; rwa [List.take_of_length_le (by rw [sz_list]; omega)] at this)
      go_wp2_with fail
      go_ret
      exact ⟨ret_bool (by rw [← EP.out, hall.out]), below_iter _ _ _⟩
set_option maxHeartbeats 400000 in
theorem plain_any (s : ByteArray) (hs : s.size ≤ 1099511627776) (w : World) : Calls Tryd.prog 30 #[.string s] w fun e w' => e = .returned (.bool (plainB s.data.toList)) ∧ Below w.heap.size w w' := by
  have hpl := Lib.hid (plain_iff s.data.toList)
  go_enter Tryd.func30, Tryd.ntmps30
  go_wp2_with fail
  go_loop [3] (fun i => ∃ k : Nat, i = .int .i64 k ∧ k ≤ s.size ∧ Hid ((s.data.toList.take k).all pln = true)) (fun i => s.size - (intOf i).toNat)
  case atStart => exact ⟨0, rfl, Nat.zero_le _, Lib.hid rfl⟩
  case round =>
    obtain ⟨k, rfl, hle, ht⟩ := hrel
    by_cases hp : k < s.size
    · obtain ⟨c, hc⟩ := get_at' s k hp
      have k1 := fun W => at_run s k c hc k rfl W
      have hcb := c.toNat_lt
      have hbp := badR_pln c
      cases hb : badR c.toNat with
      | true =>
        have hres := Lib.hid (plain_no_all _ (all_stop hc (by rw [hbp, hb]; rfl)))
        clear hbp hc
        unfold badR at hb
        rw [decide_eq_true_iff] at hb
        by_cases r1 : c.toNat = 44
        · have q1 : ((c.toNat : Int) == 44) = true := beq_true (by omega)
          clear hb r1
          go_wp2_with fail
          go_ret
          exact ⟨ret_bool hres.out.symm, Below.refl _ _⟩
        have q1 : ((c.toNat : Int) == 44) = false := beq_false (by omega)
        by_cases r2 : c.toNat = 34
        · have q2 : ((c.toNat : Int) == 34) = true := beq_true (by omega)
          clear hb r1 r2
          go_wp2_with fail
          go_ret
          exact ⟨ret_bool hres.out.symm, Below.refl _ _⟩
        have q2 : ((c.toNat : Int) == 34) = false := beq_false (by omega)
        by_cases r3 : c.toNat = 92
        · have q3 : ((c.toNat : Int) == 92) = true := beq_true (by omega)
          clear hb r1 r2 r3
          go_wp2_with fail
          go_ret
          exact ⟨ret_bool hres.out.symm, Below.refl _ _⟩
        have q3 : ((c.toNat : Int) == 92) = false := beq_false (by omega)
        have C := Lib.hid (fun w => control_yes (c.toNat : Int) (by omega) w)
        clear hb r1 r2 r3
        go_wp2_with fail
        refine (C.out _).mono ?_
        rintro e w' ⟨rfl, rfl⟩
        go_wp2_with fail
        go_ret
        exact ⟨ret_bool hres.out.symm, Below.refl _ _⟩
      | false =>
        have hst := Lib.hid (all_take pln _ k _ hc ht.out (by rw [hbp, hb]; rfl))
        clear hbp hc
        unfold badR at hb
        rw [decide_eq_false_iff_not] at hb
        have q1 : ((c.toNat : Int) == 44) = false := beq_false (by omega)
        have q2 : ((c.toNat : Int) == 34) = false := beq_false (by omega)
        have q3 : ((c.toNat : Int) == 92) = false := beq_false (by omega)
        have C := Lib.hid (fun w => control_no (c.toNat : Int) (by omega) (by omega) w)
        clear hb
        go_wp2_with fail
        refine (C.out _).mono ?_
        rintro e w' ⟨rfl, rfl⟩
        go_wp2_with fail
        go_round
        case rel => exact ⟨k + 1, by go_num, by omega, hst⟩
        case measure => simp [intOf]; omega
    · have hall := Lib.hid (show s.data.toList.all pln = true by have := ht.out; rwa [List.take_of_length_le (by rw [sz_list]; omega)] at this)
      have hz := sz_list s
      by_cases h0 : s.size = 0
      · have e : Hid (plainB s.data.toList = false) := by
          show _ = _
          cases hq : plainB s.data.toList with
          | false => rfl
          | true => exact absurd (List.length_eq_zero_iff.1 (by rw [sz_list]; exact h0)) (hpl.out.1 hq).2.1
        have g0 : decide (0 < s.size) = false := by rw [decide_eq_false_iff_not]; omega
        clear hz h0 hpl
        go_wp2_with fail
        go_ret
        exact ⟨ret_bool e.out.symm, Below.refl _ _⟩
      have g0 : 0 < s.size := by omega
      obtain ⟨c, hc⟩ := get_at' s 0 (by omega)
      obtain ⟨d, hd⟩ := get_at' s (s.size - 1) (by omega)
      have k1 := fun W => at_run s 0 c hc 0 rfl W
      have k2 := fun W => at_run s (s.size - 1) d hd ((s.size : Int) - 1) (by omega) W
      have P := Lib.hid (show (plainB s.data.toList = true ↔ c ≠ 32 ∧ d ≠ 32) by
        rw [hpl.out, sz_list, hc, hd, hall.out]
        have : s.data.toList ≠ [] := fun e => by rw [e] at hz; simp at hz; omega
        simp [this])
      have E32 := Lib.hid (show ∀ x : UInt8, (x = 32 ↔ x.toNat = 32) from fun x => ⟨fun h => by rw [h]; rfl, fun h => UInt8.toNat_inj.1 h⟩)
      have hcb := c.toNat_lt
      have hdb := d.toNat_lt
      clear hpl hz h0 hc hd hall ht hle
      by_cases hc32 : c.toNat = 32
      · have q : ((c.toNat : Int) != 32) = false := neq_false (by omega)
        have e := Lib.hid (show plainB s.data.toList = false by
          cases hq : plainB s.data.toList with
          | false => rfl
          | true => exact absurd ((E32.out c).2 hc32) (P.out.1 hq).1)
        clear hc32
        go_wp2_with fail
        go_ret
        exact ⟨ret_bool e.out.symm, Below.refl _ _⟩
      have q : ((c.toNat : Int) != 32) = true := bne_true (by omega)
      by_cases hd32 : d.toNat = 32
      · have q2 : ((d.toNat : Int) != 32) = false := neq_false (by omega)
        have e := Lib.hid (show plainB s.data.toList = false by
          cases hq : plainB s.data.toList with
          | false => rfl
          | true => exact absurd ((E32.out d).2 hd32) (P.out.1 hq).2)
        clear hc32 hd32
        go_wp2_with fail
        go_ret
        exact ⟨ret_bool e.out.symm, Below.refl _ _⟩
      have q2 : ((d.toNat : Int) != 32) = true := bne_true (by omega)
      have e := Lib.hid (show plainB s.data.toList = true from P.out.2 ⟨fun h => hc32 ((E32.out c).1 h), fun h => hd32 ((E32.out d).1 h)⟩)
      clear hc32 hd32
      go_wp2_with fail
      go_ret
      exact ⟨ret_bool e.out.symm, Below.refl _ _⟩
end Go.Proofs.YtpdekihfgglmkaaDoor
