/-
  The functions of package number and of its reference that write and read prices: what each call answers; nothing that existed before the call has changed behind it. Condition: a text of at most 4000 bytes; the library's variable ErrRange holds an error.
-/
import Derived.Test.YtaglpfilopcniaaDoorNRParse
import Derived.Test.YtaglpfilopcniaaDoorNumP
import Derived.Test.YtaglpfilopcniaaDoorRunes
namespace Go.Proofs.YtaglpfilopcniaaDoor
open Go.RowKit

/-! ### FormatPrice -/
theorem price_str (c : Nat) : str (Lib.decDigits (c / 100)) ++ str [46] ++ str [cod (c % 100 / 10)] ++ str [cod (c % 10)] = str (priceText c) := by
  rw [str_app, str_app, str_app]
  unfold priceText two cod
  rw [show (48 + c % 100 / 10 % 10) = 48 + ((c % 100 : Nat) : Int).toNat / 10 by omega, show (48 + c % 10 % 10) = 48 + ((c % 100 : Nat) : Int).toNat % 10 by omega]
  simp
theorem itoa_nat (c : Nat) (x : Int) (hx : x = (c : Int)) : Lib.itoa x = Lib.decDigits c := by
  rw [itoa_pos x (by omega), hx]
  rfl
theorem itoa_digit (c : Nat) (x : Int) (hx : x = (c : Int)) (h : c < 10) : Lib.itoa x = [cod c] := by
  rw [itoa_nat c x hx, Lib.decDigits_one h]
  unfold cod
  rw [show c % 10 = c by omega]
theorem fprice_yes (n : Int) (c : Nat) (hn : n = (c : Int)) (h : n ≤ 1000000) (w : World) : Calls Tryd.prog 27 #[.int .i64 n] w fun e w' => e = .returned (.tuple #[.string (str (priceText c)), .int .i64 0]) ∧ Below w.heap.size w w' := by
  have h0 : 0 ≤ n := by omega
  have A := Lib.hid (fun w => format_any (n / 100) (by omega) (by omega) w)
  have B := Lib.hid (fun w => format_any (n % 100 / 10) (by omega) (by omega) w)
  have C := Lib.hid (fun w => format_any (n % 10) (by omega) (by omega) w)
  rw [itoa_nat (c / 100) _ (by omega)] at A
  rw [itoa_digit (c % 100 / 10) _ (by omega) (by omega)] at B
  rw [itoa_digit (c % 10) _ (by omega) (by omega)] at C
  have hl := dd_len (c / 100) 5 (by decide) (by omega)
  have hl1 := size_str (Lib.decDigits (c / 100))
  have E := Lib.hid (price_str c)
  clear hn
  go_enter Tryd.func27, Tryd.ntmps27
  go_wp2_with fail
  refine (between_any _ _ _).mono ?_
  rintro e w' ⟨rfl, rfl⟩
  go_wp2_with fail
  refine (inside_yes _ _ _ (by omega) (by omega) _).mono ?_
  rintro e w' ⟨rfl, rfl⟩
  go_wp2_with fail
  (with_reducible refine (rel (W := w) (A.out _) (rng_below _ _ _)).mono ?_)
  rintro e w1 ⟨rfl, b1⟩
  go_wp2_with fail
  (with_reducible refine (rel (W := w) (B.out _) b1).mono ?_)
  rintro e w2 ⟨rfl, b2⟩
  go_wp2_with fail
  (with_reducible refine (rel (W := w) (C.out _) b2).mono ?_)
  rintro e w3 ⟨rfl, b3⟩
  go_wp2_with fail
  go_ret2
  exact ⟨ret_str E.out, b3⟩
theorem fprice_no (n : Int) (h : n < 0 ∨ 1000000 < n) (w : World) : Calls Tryd.prog 27 #[.int .i64 n] w fun e w' => e = .returned (.tuple #[.string (str []), .int .i64 2]) ∧ Below w.heap.size w w' := by
  go_enter Tryd.func27, Tryd.ntmps27
  go_wp2_with fail
  refine (between_any _ _ _).mono ?_
  rintro e w' ⟨rfl, rfl⟩
  go_wp2_with fail
  refine (inside_no _ _ _ h _).mono ?_
  rintro e w' ⟨rfl, rfl⟩
  go_wp2_with fail
  go_ret2
  exact ⟨rfl, rng_below _ _ _⟩
theorem rfprice_yes (n : Int) (c : Nat) (hn : n = (c : Int)) (h : n ≤ 1000000) (w : World) : Calls Tryd.prog 28 #[.int .i64 n] w fun e w' => e = .returned (.tuple #[.string (str (priceText c)), .int .i64 0]) ∧ w = w' := by
  have h0 : 0 ≤ n := by omega
  have A := Lib.hid (fun w => rformat_any (n / 100) (by omega) (by omega) w)
  have B := Lib.hid (fun w => rdigit_any (c % 100 / 10) (by omega) w)
  have C := Lib.hid (fun w => rdigit_any (c % 10) (by omega) w)
  rw [itoa_nat (c / 100) _ (by omega)] at A
  rw [show ((c % 100 / 10 : Nat) : Int) = n / 10 % 10 by omega, show UInt8.ofNat (48 + c % 100 / 10) = cod (c % 100 / 10) by unfold cod; rw [show c % 100 / 10 % 10 = c % 100 / 10 by omega]] at B
  rw [show ((c % 10 : Nat) : Int) = n % 10 by omega, show UInt8.ofNat (48 + c % 10) = cod (c % 10) by unfold cod; rw [show c % 10 % 10 = c % 10 by omega]] at C
  have hl := dd_len (c / 100) 5 (by decide) (by omega)
  have hl1 := size_str (Lib.decDigits (c / 100))
  have E := Lib.hid (price_str c)
  clear hn
  go_enter Tryd.func28, Tryd.ntmps28
  go_wp2_with fail
  refine (A.out _).mono ?_
  rintro e w' ⟨rfl, rfl⟩
  go_wp2_with fail
  refine (B.out _).mono ?_
  rintro e w' ⟨rfl, rfl⟩
  go_wp2_with fail
  refine (C.out _).mono ?_
  rintro e w' ⟨rfl, rfl⟩
  go_wp2_with fail
  go_ret2
  exact ⟨ret_str E.out, rfl⟩
theorem rfprice_no (n : Int) (h : n < 0 ∨ 1000000 < n) (w : World) : Calls Tryd.prog 28 #[.int .i64 n] w fun e w' => e = .returned (.tuple #[.string (str []), .int .i64 2]) ∧ w = w' := by
  by_cases h0 : n < 0
  · go_enter Tryd.func28, Tryd.ntmps28
    go_wp2_with fail
    go_ret2
    exact ⟨rfl, rfl⟩
  · have h1 : 1000000 < n := by omega
    have d : decide (n < 0) = false := lt_false (by omega)
    go_enter Tryd.func28, Tryd.ntmps28
    go_wp2_with fail
    go_ret2
    exact ⟨rfl, rfl⟩

/-! ### cutAtStop -/
theorem run_next_low (w : World) (s : ByteArray) (pos : Nat) (h : pos < s.size) (ha : s[pos].toNat < 128) (ty : TypeId) : (Instr.next (.pointer (some ⟨w.heap.size, 0, none⟩)) true ty).run Tryd.prog (w.iter s pos) = .ok (.tuple #[.bool true, .int .i64 pos, .int .i32 s[pos].toNat]) (w.iter s (pos + 1)) := run_next_ascii w s pos ty h ha
theorem ret_ss {a b c d : ByteArray} (h : a = c) (k : b = d) : Ending.returned (.tuple #[.string a, .string b]) = .returned (.tuple #[.string c, .string d]) := by rw [h, k]
theorem cut_any (l : List UInt8) (hs : l.length ≤ 4096) (w : World) : Calls Tryd.prog 38 #[.string (str l)] w fun e w' => e = .returned (.tuple #[.string (str (bef l)), .string (str (beh l))]) ∧ Below w.heap.size w w' := by
  have hz := size_str l
  have hs' : (str l).size ≤ 4096 := by omega
  have HL := Lib.hid (show (str l).data.toList = l from rfl)
  have K1 := Lib.hid (fun (pos : Nat) (hp : pos ≤ l.length) W => slh_run l pos hp _ rfl pos rfl W)
  have K2 := Lib.hid (fun (pos : Nat) (hp : pos + 1 ≤ l.length) W => sll_run l (pos + 1) hp _ rfl ((pos : Int) + 1) (by omega) W)
  have HZ := Lib.hid hz
  clear hz
  generalize hL : str l = s at *
  clear hL
  go_enter Tryd.func38, Tryd.ntmps38
  go_wp2
  go_loopw [] (fun w' => ∃ pos : Nat, w' = w.iter s pos ∧ pos ≤ s.size ∧ Hid ((s.data.toList.take pos).all noStop = true)) (fun w' => s.size - w'.iterPos w.heap.size)
  case atStart => exact ⟨0, rfl, Nat.zero_le _, Lib.hid rfl⟩
  case round =>
    obtain ⟨pos, rfl, hle, ht⟩ := hrel
    by_cases hp : pos < s.size
    · by_cases ha : s[pos].toNat < 128
      · have hnx := run_next_low w s pos hp ha
        by_cases hc : s[pos].toNat = 46
        · have hB : bef l = l.take pos ∧ beh l = l.drop (pos + 1) := by
            have h1 := ht.out
            rw [HL.out] at h1
            refine bef_at l pos h1 ?_
            have := list_at s pos hp
            rw [HL.out] at this
            rw [this, show s[pos] = 46 from UInt8.toNat_inj.1 hc]
          have k1 := K1.out pos (by have := HZ.out; omega)
          have k2 := K2.out pos (by have := HZ.out; omega)
          have q : ((s[pos].toNat : Int) == 46) = true := beq_true (by omega)
          have HB := Lib.hid hB
          clear hB hc ht
          go_wp2
          go_quiet (fail)
          go_wp2
          go_ret2
          exact ⟨ret_ss (by rw [HB.out.1]) (by rw [HB.out.2]), below_drewN (below_iter _ _ _) _⟩
        · have q : ((s[pos].toNat : Int) == 46) = false := beq_false (by omega)
          have hst : Hid ((s.data.toList.take (pos + 1)).all noStop = true) := Lib.hid (by
            rw [take_snoc s pos hp, List.all_append, ht.out]
            simp [noStop]
            intro e
            rw [e] at hc
            exact hc rfl)
          go_wp2
          go_roundw
          case rel => exact ⟨pos + 1, rfl, by omega, hst⟩
          case measure => simp; omega
      · have hh := decode_high s pos hp (by omega)
        have hi := skip_in s pos hp
        have hst : Hid ((s.data.toList.take (pos + (Utf8.decode s pos).2)).all noStop = true) := Lib.hid (take_skip noStop (fun c hc => by
          unfold noStop
          rw [bne_iff_ne]
          intro e
          subst e
          simp at hc) s pos hp (by omega) ht.out)
        have q : (((Utf8.decode s pos).1 : Int) == 46) = false := beq_false (by omega)
        have hnx : ∀ ty, (Instr.next (.pointer (some ⟨w.heap.size, 0, none⟩)) true ty).run Tryd.prog (w.iter s pos) = _ := fun ty => run_next_any w s pos ty hp
        go_wp2
        go_roundw
        case rel => exact ⟨pos + (Utf8.decode s pos).2, rfl, hi, hst⟩
        case measure => simp; omega
    · have hnx : ∀ ty, (Instr.next (.pointer (some ⟨w.heap.size, 0, none⟩)) true ty).run Tryd.prog (w.iter s pos) = _ := fun ty => run_next_end w s pos ty hp
      have hB := bef_none l (by
        have h1 := ht.out
        rwa [take_all s pos hle hp, HL.out] at h1)
      have E : s = str l := str_of s l HL.out
      have HB := Lib.hid hB
      have HE := Lib.hid E
      clear hB ht E
      go_wp2
      go_ret2
      exact ⟨ret_ss (by rw [HB.out.1, HE.out]) (by rw [HB.out.2]), below_iter _ _ _⟩
end Go.Proofs.YtaglpfilopcniaaDoor
