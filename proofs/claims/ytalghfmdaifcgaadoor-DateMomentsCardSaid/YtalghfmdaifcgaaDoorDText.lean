/-
  The functions of package date and of its reference that write texts: what each call answers; nothing that existed before the call has changed behind it. Condition: the tables hold what their initialisers lay, where a theorem names them.
-/
import Derived.Test.YtalghfmdaifcgaaDoorDCivil
import Derived.Test.YtalghfmdaifcgaaDoorMoms
import Derived.Test.YtalghfmdaifcgaaDoorRText
import Derived.Sort.Grow
namespace Go.Proofs.YtalghfmdaifcgaaDoor
open Go.RowKit

theorem below_grow (w : World) (k : Nat) (os : Array Obj) : Below w.heap.size w (Sort.grow (w.drewN k) os) :=
  ⟨rfl, rfl, rfl, by simp, fun j hj => Sort.heap_grow_old (w.drewN k) os hj⟩
theorem ret_sstr {a b : ByteArray} (h : a = b) : Ending.returned (.string a) = Ending.returned (.string b) := by rw [h]
theorem four_len (y : Int) : (four y).length = 4 := rfl
theorem four_le (y : Int) : (four y).length ≤ 100 := by rw [four_len]; decide
theorem itoa_four (q : Nat) (hq : q < 100) : Lib.itoa (2000 + (q : Int)) = four (2000 + (q : Int)) := by
  have e : (2000 + (q : Int)).toNat = 2000 + q := by omega
  unfold Lib.itoa four two
  rw [if_neg (by omega), e, Lib.decDigits, dif_neg (by omega), Lib.decDigits, dif_neg (by omega), Lib.decDigits_two (by omega) (by omega)]
  rw [show (2000 + q) / 10 / 10 / 10 = ((2000 + (q : Int)) / 100).toNat / 10 by omega, show (2000 + q) / 10 / 10 % 10 = ((2000 + (q : Int)) / 100).toNat % 10 by omega,
    show (2000 + q) / 10 % 10 = ((2000 + (q : Int)) % 100).toNat / 10 by omega, show (2000 + q) % 10 = ((2000 + (q : Int)) % 100).toNat % 10 by omega]
  rfl
theorem itoa_year (q : Nat) (hq : q < 100) (w : World) (hg : Good w) :
    Calls Tryd.prog 43 #[.int .i64 (2000 + (q : Int))] w fun e w' => e = .returned (.string (str (four (2000 + (q : Int))))) ∧ Below w.heap.size w w' := by
  rw [← itoa_four q hq]
  refine (Tryd.strconv_Itoa (2000 + (q : Int)) (by omega) (by omega) w hg.2).mono ?_
  rintro e w' ⟨rfl, k, os, rfl⟩
  exact ⟨rfl, below_grow w k os⟩

theorem dtwo_any (x : Int) (h0 : 0 ≤ x) (h1 : x < 100) (w : World) :
    Calls Tryd.prog 44 #[.int .i64 x] w fun e w' => e = .returned (.string (str (two x))) ∧ w = w' := by
  have l1 := dec_len (x / 10) (by omega)
  have l2 := dec_len (x % 10) (by omega)
  have E := Lib.hid (show str (dec (x / 10)) ++ str (dec (x % 10)) = str (two x) by rw [str_app, dec_two x h0 h1])
  go_enter Tryd.func44, Tryd.ntmps44
  go_wp2_with (go_at_call 43; refine (itoa_any _ (by omega) (by omega) _).mono ?_; rintro e w' ⟨rfl, rfl⟩)
  go_ret
  exact ⟨ret_sstr E.out, rfl⟩

theorem date_str (y m d : Int) : str (four y) ++ str [45] ++ str (two m) ++ str [45] ++ str (two d) = str (dateText y m d) := by
  rw [str_app, str_app, str_app, str_app]
  rfl
theorem dformat_yes (i n : Nat) (hi : i < 1200) (h : InMon i n) (w : World) (hg : Good w) :
    Calls Tryd.prog 27 #[.int .i64 n] w fun e w' => e = .returned (.tuple #[.string (str (dText i n)), .int .i64 0]) ∧ Below w.heap.size w w' := by
  have C := Lib.hid (civil_yes i n hi h w hg)
  have hl := inMon_left h
  have h1 := h.1
  have hr := (mon_range (i / 12) (i % 12)).2
  unfold mon at hl
  have Y := Lib.hid (fun w hg => itoa_year (i / 12) (by omega) w hg)
  have e1 : (2000 + ((i / 12 : Nat) : Int)) = 2000 + (i : Int) / 12 := by omega
  rw [e1] at Y
  have m0 : 0 ≤ 1 + (i : Int) % 12 := by omega
  have m1 : 1 + (i : Int) % 12 < 100 := by omega
  have M := Lib.hid (fun w => dtwo_any (1 + (i : Int) % 12) m0 m1 w)
  have d0 : 0 ≤ (n : Int) - bef i + 1 := by omega
  have d1 : (n : Int) - bef i + 1 < 100 := by omega
  have D := Lib.hid (fun w => dtwo_any ((n : Int) - bef i + 1) d0 d1 w)
  have E := Lib.hid (date_str (2000 + (i : Int) / 12) (1 + (i : Int) % 12) ((n : Int) - bef i + 1))
  have lY := four_len (2000 + (i : Int) / 12)
  have lM := two_len (1 + (i : Int) % 12)
  have lD := two_len ((n : Int) - bef i + 1)
  clear h hl h1 hr e1 m0 m1 d0 d1 hi
  go_enter Tryd.func27, Tryd.ntmps27
  go_wp2_with (go_at_call 23; refine C.out.mono ?_; rintro e w' ⟨rfl, rfl⟩)
  go_wp2_with fail
  refine (Y.out _ hg).mono ?_
  rintro e w1 ⟨rfl, b1⟩
  go_wp2_with fail
  refine (M.out _).mono ?_
  rintro e w2 ⟨rfl, rfl⟩
  go_wp2_with fail
  refine (D.out _).mono ?_
  rintro e w2 ⟨rfl, rfl⟩
  go_wp2_with fail
  go_ret2
  exact ⟨ret_str E.out, b1⟩
theorem dformat_no (n : Int) (h : n < 0 ∨ 36524 < n) (w : World) :
    Calls Tryd.prog 27 #[.int .i64 n] w fun e w' => e = .returned (.tuple #[.string (str []), .int .i64 11]) ∧ w = w' := by
  go_enter Tryd.func27, Tryd.ntmps27
  go_wp2_with (go_at_call 23; refine (civil_no _ h _).mono ?_; rintro e w' ⟨rfl, rfl⟩)
  go_ret2
  exact ⟨rfl, rfl⟩

theorem digits_two (x : Int) : str [UInt8.ofNat (48 + x / 10 % 10).toNat] ++ (str [UInt8.ofNat (48 + x % 10).toNat] ++ str []) = str (two (x % 100)) := by
  rw [str_app, str_app]
  unfold two
  rw [show (48 + x / 10 % 10).toNat = 48 + (x % 100).toNat / 10 by omega, show (48 + x % 10).toNat = 48 + (x % 100).toNat % 10 by omega]
  rfl
theorem rdigits2 (x : Int) (h0 : 0 ≤ x) (h1 : x < 100) (w : World) :
    Calls Tryd.prog 45 #[.int .i64 x, .int .i64 2] w fun e w' => e = .returned (.string (str (two x))) ∧ Below w.heap.size w w' := by
  have hk := conv1 (48 + x % 10) w
  have hk2 := conv1 (48 + x / 10 % 10) (w.alloc (.cells #[.int .u8 (48 + x % 10)] 5))
  simp at hk2
  have E := Lib.hid (digits_two x)
  rw [show x % 100 = x by omega] at E
  go_enter Tryd.func45, Tryd.ntmps45
  go_wp2_with fail
  refine wp_loop_rounds 3 ?_
  rw [rounds_succ]
  go_wp2_with fail
  rw [rounds_succ]
  go_wp2_with fail
  rw [rounds_succ]
  go_wp2_with fail
  go_ret
  exact ⟨ret_sstr E.out, ((Below.refl _ _).alloc (Nat.le_refl _) _).alloc (by simp) _⟩
theorem digits_four (x : Int) (h0 : 0 ≤ x) (h1 : x < 10000) :
    str [UInt8.ofNat (48 + x / 10 / 10 / 10 % 10).toNat] ++ (str [UInt8.ofNat (48 + x / 10 / 10 % 10).toNat] ++ (str [UInt8.ofNat (48 + x / 10 % 10).toNat] ++ (str [UInt8.ofNat (48 + x % 10).toNat] ++ str []))) = str (four x) := by
  rw [str_app, str_app, str_app, str_app]
  unfold four two
  rw [show (48 + x / 10 / 10 / 10 % 10).toNat = 48 + (x / 100).toNat / 10 by omega, show (48 + x / 10 / 10 % 10).toNat = 48 + (x / 100).toNat % 10 by omega,
    show (48 + x / 10 % 10).toNat = 48 + (x % 100).toNat / 10 by omega, show (48 + x % 10).toNat = 48 + (x % 100).toNat % 10 by omega]
  rfl
theorem rdigits4 (x : Int) (h0 : 0 ≤ x) (h1 : x < 10000) (w : World) :
    Calls Tryd.prog 45 #[.int .i64 x, .int .i64 4] w fun e w' => e = .returned (.string (str (four x))) ∧ Below w.heap.size w w' := by
  have hk := conv1 (48 + x % 10) w
  have hk2 := conv1 (48 + x / 10 % 10) (w.alloc (.cells #[.int .u8 (48 + x % 10)] 5))
  have hk3 := conv1 (48 + x / 10 / 10 % 10) ((w.alloc (.cells #[.int .u8 (48 + x % 10)] 5)).alloc (.cells #[.int .u8 (48 + x / 10 % 10)] 5))
  have hk4 := conv1 (48 + x / 10 / 10 / 10 % 10) (((w.alloc (.cells #[.int .u8 (48 + x % 10)] 5)).alloc (.cells #[.int .u8 (48 + x / 10 % 10)] 5)).alloc (.cells #[.int .u8 (48 + x / 10 / 10 % 10)] 5))
  simp at hk2 hk3 hk4
  have E := Lib.hid (digits_four x h0 h1)
  go_enter Tryd.func45, Tryd.ntmps45
  go_wp2_with fail
  refine wp_loop_rounds 5 ?_
  rw [rounds_succ]
  go_wp2_with fail
  rw [rounds_succ]
  go_wp2_with fail
  rw [rounds_succ]
  go_wp2_with fail
  rw [rounds_succ]
  go_wp2_with fail
  rw [rounds_succ]
  go_wp2_with fail
  go_ret
  exact ⟨ret_sstr E.out, ((((Below.refl _ _).alloc (Nat.le_refl _) _).alloc (by simp) _).alloc (by simp; omega) _).alloc (by simp; omega) _⟩

theorem rdformat_yes (i n : Nat) (hi : i < 1200) (h : InMon i n) (w : World) :
    Calls Tryd.prog 28 #[.int .i64 n] w fun e w' => e = .returned (.tuple #[.string (str (dText i n)), .int .i64 0]) ∧ Below w.heap.size w w' := by
  have C := Lib.hid (rcivil_yes i n hi h w)
  have hl := inMon_left h
  have h1 := h.1
  have hr := (mon_range (i / 12) (i % 12)).2
  unfold mon at hl
  have y0 : 0 ≤ 2000 + (i : Int) / 12 := by omega
  have y1 : 2000 + (i : Int) / 12 < 10000 := by omega
  have Y := Lib.hid (fun w => rdigits4 (2000 + (i : Int) / 12) y0 y1 w)
  have m0 : 0 ≤ 1 + (i : Int) % 12 := by omega
  have m1 : 1 + (i : Int) % 12 < 100 := by omega
  have M := Lib.hid (fun w => rdigits2 (1 + (i : Int) % 12) m0 m1 w)
  have d0 : 0 ≤ (n : Int) - bef i + 1 := by omega
  have d1 : (n : Int) - bef i + 1 < 100 := by omega
  have D := Lib.hid (fun w => rdigits2 ((n : Int) - bef i + 1) d0 d1 w)
  have E := Lib.hid (date_str (2000 + (i : Int) / 12) (1 + (i : Int) % 12) ((n : Int) - bef i + 1))
  have lY := four_len (2000 + (i : Int) / 12)
  have lM := two_len (1 + (i : Int) % 12)
  have lD := two_len ((n : Int) - bef i + 1)
  clear h hl h1 hr y0 y1 m0 m1 d0 d1 hi
  go_enter Tryd.func28, Tryd.ntmps28
  go_wp2_with (go_at_call 24; refine C.out.mono ?_; rintro e w' ⟨rfl, rfl⟩)
  go_wp2_with fail
  refine (Y.out _).mono ?_
  rintro e w1 ⟨rfl, b1⟩
  go_wp2_with fail
  refine (M.out _).mono ?_
  rintro e w2 ⟨rfl, b2⟩
  go_wp2_with fail
  refine (D.out _).mono ?_
  rintro e w3 ⟨rfl, b3⟩
  go_wp2_with fail
  go_ret2
  exact ⟨ret_str E.out, b1.trans ((b2.trans (b3.mono b2.size)).mono b1.size)⟩
theorem rdformat_no (n : Int) (h : n < 0 ∨ 36524 < n) (w : World) :
    Calls Tryd.prog 28 #[.int .i64 n] w fun e w' => e = .returned (.tuple #[.string (str []), .int .i64 11]) ∧ w = w' := by
  go_enter Tryd.func28, Tryd.ntmps28
  go_wp2_with (go_at_call 24; refine (rcivil_no _ h _).mono ?_; rintro e w' ⟨rfl, rfl⟩)
  go_ret2
  exact ⟨rfl, rfl⟩

theorem mom_str (i n : Nat) (t : Int) : str (dText i n) ++ str [84] ++ str (timeText t) = str (mText i n t) := by
  rw [str_app, str_app]
  rfl
theorem fmtMom_yes (a : Int) (i n : Nat) (h0 : 0 ≤ a) (hn : a / 86400 = n) (hi : i < 1200) (h : InMon i n) (w : World) (hg : Good w) :
    Calls Tryd.prog 35 #[.int .i64 a] w fun e w' => e = .returned (.tuple #[.string (str (mText i n (a % 86400))), .int .i64 0]) ∧ Below w.heap.size w w' := by
  have hd := inMon_day h hi
  have R := Lib.hid (relative_yes a h0 (by omega) w)
  rw [hn] at R
  have F := Lib.hid (dformat_yes i n hi h w hg)
  have T := Lib.hid (fun w => format_yes (a % 86400) (by omega) (by omega) w)
  have E := Lib.hid (mom_str i n (a % 86400))
  have lD := dText_len i n
  have lT := timeText_len (a % 86400)
  clear h hi hd hn h0
  go_enter Tryd.func35, Tryd.ntmps35
  go_wp2_with (go_at_call 33; refine R.out.mono ?_; rintro e w' ⟨rfl, rfl⟩)
  go_wp2_with fail
  refine F.out.mono ?_
  rintro e w1 ⟨rfl, b1⟩
  go_wp2_with fail
  refine (T.out _).mono ?_
  rintro e w2 ⟨rfl, b2⟩
  go_wp2_with fail
  go_ret2
  exact ⟨ret_str E.out, b1.trans (b2.mono b1.size)⟩
theorem fmtMom_no (a : Int) (ha : a ≤ 9223372036854775807) (h : a < 0 ∨ 0 ≤ a ∧ 36524 < a / 86400) (w : World) :
    Calls Tryd.prog 35 #[.int .i64 a] w fun e w' => e = .returned (.tuple #[.string (str []), .int .i64 11]) ∧ w = w' := by
  have R := Lib.hid (relative_no a ha h w)
  clear h
  go_enter Tryd.func35, Tryd.ntmps35
  go_wp2_with (go_at_call 33; refine R.out.mono ?_; rintro e w' ⟨rfl, rfl⟩)
  go_ret2
  exact ⟨rfl, rfl⟩
theorem rfmtMom_yes (a : Int) (i n : Nat) (h0 : 0 ≤ a) (hn : a / 86400 = n) (hi : i < 1200) (h : InMon i n) (w : World) :
    Calls Tryd.prog 36 #[.int .i64 a] w fun e w' => e = .returned (.tuple #[.string (str (mText i n (a % 86400))), .int .i64 0]) ∧ Below w.heap.size w w' := by
  have hd := inMon_day h hi
  have R := Lib.hid (rrelative_yes a h0 (by omega) w)
  rw [hn] at R
  have F := Lib.hid (rdformat_yes i n hi h w)
  have T := Lib.hid (fun w => rformat_yes (a % 86400) (by omega) (by omega) w)
  have E := Lib.hid (mom_str i n (a % 86400))
  have lD := dText_len i n
  have lT := timeText_len (a % 86400)
  clear h hi hd hn h0
  go_enter Tryd.func36, Tryd.ntmps36
  go_wp2_with (go_at_call 34; refine R.out.mono ?_; rintro e w' ⟨rfl, rfl⟩)
  go_wp2_with fail
  refine F.out.mono ?_
  rintro e w1 ⟨rfl, b1⟩
  go_wp2_with fail
  refine (T.out _).mono ?_
  rintro e w2 ⟨rfl, b2⟩
  go_wp2_with fail
  go_ret2
  exact ⟨ret_str E.out, b1.trans (b2.mono b1.size)⟩
theorem rfmtMom_no (a : Int) (ha : a ≤ 9223372036854775807) (h : a < 0 ∨ 0 ≤ a ∧ 36524 < a / 86400) (w : World) :
    Calls Tryd.prog 36 #[.int .i64 a] w fun e w' => e = .returned (.tuple #[.string (str []), .int .i64 11]) ∧ w = w' := by
  have R := Lib.hid (rrelative_no a ha h w)
  clear h
  go_enter Tryd.func36, Tryd.ntmps36
  go_wp2_with (go_at_call 34; refine R.out.mono ?_; rintro e w' ⟨rfl, rfl⟩)
  go_ret2
  exact ⟨rfl, rfl⟩
end Go.Proofs.YtalghfmdaifcgaaDoor
