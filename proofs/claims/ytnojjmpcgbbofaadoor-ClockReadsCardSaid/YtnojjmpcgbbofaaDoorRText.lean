/-
  The functions of the reference of package clock that write texts: what each call answers; nothing that existed before the call has changed behind it. Condition: the number is in the range that each theorem names.
-/
import Derived.Test.YtnojjmpcgbbofaaDoorText
import Derived.Laws.BytesArg
import Derived.LoopN
namespace Go.Proofs.YtnojjmpcgbbofaaDoor
open Go.RowKit

theorem conv2 (a b : Int) (w : World) :
    (convert 57 9 (.slice (some ⟨w.heap.size, 0, none⟩) 2 2)).run Tryd.prog (w.alloc (.cells #[.int .u8 a, .int .u8 b] 5)) = .ok (.string (str [UInt8.ofNat a.toNat, UInt8.ofNat b.toNat])) (w.alloc (.cells #[.int .u8 a, .int .u8 b] 5)) :=
  run_convert_bytes_arg (P := Tryd.prog) _ 57 5 Tryd.underlying57 Tryd.underlying5 w.heap.size 0 2 2 [a, b] rfl (by
    intro i hi
    match i, hi with
    | 0, _ => go_simp
    | 1, _ => go_simp) 9 Tryd.underlying9
theorem conv1 (a : Int) (w : World) :
    (convert 57 9 (.slice (some ⟨w.heap.size, 0, none⟩) 1 1)).run Tryd.prog (w.alloc (.cells #[.int .u8 a] 5)) = .ok (.string (str [UInt8.ofNat a.toNat])) (w.alloc (.cells #[.int .u8 a] 5)) :=
  run_convert_bytes_arg (P := Tryd.prog) _ 57 5 Tryd.underlying57 Tryd.underlying5 w.heap.size 0 1 1 [a] rfl (by
    intro i hi
    match i, hi with
    | 0, _ => go_simp) 9 Tryd.underlying9
theorem two_eq (x : Int) (h0 : 0 ≤ x) : [UInt8.ofNat (48 + x / 10).toNat, UInt8.ofNat (48 + x % 10).toNat] = two x := by
  unfold two
  rw [show (48 + x / 10).toNat = 48 + x.toNat / 10 by omega, show (48 + x % 10).toNat = 48 + x.toNat % 10 by omega]

theorem rtwo_any (x : Int) (h0 : 0 ≤ x) (h1 : x < 100) (w : World) :
    Calls Tryd.prog 31 #[.int .i64 x] w fun e w' => e = .returned (.string (str (two x))) ∧ Below w.heap.size w w' := by
  have hk := conv2 (48 + x / 10) (48 + x % 10) w
  rw [two_eq x h0] at hk
  go_enter Tryd.func31, Tryd.ntmps31
  go_wp2_with fail
  go_ret
  exact ⟨rfl, (Below.refl _ _).alloc (Nat.le_refl _) _⟩
theorem rnumber_one (x : Int) (h0 : 0 ≤ x) (h1 : x < 10) (w : World) :
    Calls Tryd.prog 37 #[.int .i64 x] w fun e w' => e = .returned (.string (str (dec x))) ∧ Below w.heap.size w w' := by
  have hk := conv1 (48 + x % 10) w
  have hx : ¬ 10 ≤ x := by omega
  have hd : [UInt8.ofNat (48 + x % 10).toNat] = dec x := by
    unfold dec
    rw [Lib.decDigits_one (by omega), show (48 + x % 10).toNat = 48 + x.toNat by omega]
  rw [hd] at hk
  clear hd
  go_enter Tryd.func37, Tryd.ntmps37
  go_wp2_with fail
  refine wp_loop_rounds 1 ?_
  rw [rounds_succ]
  go_wp2_with fail
  go_ret
  exact ⟨rfl, (Below.refl _ _).alloc (Nat.le_refl _) _⟩
theorem rnumber_two (x : Int) (h0 : 10 ≤ x) (h1 : x < 100) (w : World) :
    Calls Tryd.prog 37 #[.int .i64 x] w fun e w' => e = .returned (.string (str (dec x))) ∧ Below w.heap.size w w' := by
  have hk := conv1 (48 + x % 10) w
  have hk2 := conv1 (48 + x / 10 % 10) (w.alloc (.cells #[.int .u8 (48 + x % 10)] 5))
  simp at hk2
  have hx : ¬ 10 ≤ x / 10 := by omega
  have hd : dec x = [UInt8.ofNat (48 + x / 10 % 10).toNat] ++ [UInt8.ofNat (48 + x % 10).toNat] := by
    unfold dec
    rw [Lib.decDigits_two (by omega) (by omega), show (48 + x / 10 % 10).toNat = 48 + x.toNat / 10 by omega, show (48 + x % 10).toNat = 48 + x.toNat % 10 by omega]
    rfl
  have HD := Lib.hid hd
  clear hd
  go_enter Tryd.func37, Tryd.ntmps37
  go_wp2_with fail
  refine wp_loop_rounds 2 ?_
  rw [rounds_succ]
  go_wp2_with fail
  rw [rounds_succ]
  go_wp2_with fail
  go_ret
  refine ⟨?_, ?_⟩
  · rw [HD.out]; rfl
  · exact ((Below.refl _ _).alloc (Nat.le_refl _) _).alloc (by simp) _
theorem rnumber_any (x : Int) (h0 : 0 ≤ x) (h1 : x < 100) (w : World) :
    Calls Tryd.prog 37 #[.int .i64 x] w fun e w' => e = .returned (.string (str (dec x))) ∧ Below w.heap.size w w' := by
  by_cases h : x < 10
  · exact rnumber_one x h0 h w
  · exact rnumber_two x (by omega) h1 w

theorem str_app (a b : List UInt8) : str a ++ str b = str (a ++ b) := by
  apply ByteArray.ext
  simp [str]
theorem ret_str {a b : ByteArray} (h : a = b) {n : Int} : Ending.returned (.tuple #[.string a, .int .i64 n]) = Ending.returned (.tuple #[.string b, .int .i64 n]) := by rw [h]
theorem time_str (t : Int) : str (two (t / 3600)) ++ str [58] ++ str (two (t / 60 % 60)) ++ str [58] ++ str (two (t % 60)) = str (timeText t) := by
  rw [str_app, str_app, str_app, str_app, show t / 60 % 60 = t % 3600 / 60 by omega]
  rfl
theorem dur_h_str (n : Int) (h : 3600 ≤ n) : str (dec (n / 3600)) ++ str [104] ++ str (two (n / 60 % 60)) ++ str [109] ++ str (two (n % 60)) ++ str [115] = str (durText n) := by
  rw [str_app, str_app, str_app, str_app, str_app, show n / 60 % 60 = n % 3600 / 60 by omega]
  unfold durText
  rw [if_pos h]
theorem dur_m_str (n : Int) (h0 : 60 ≤ n) (h1 : n < 3600) : str (dec (n / 60)) ++ str [109] ++ str (two (n % 60)) ++ str [115] = str (durText n) := by
  rw [str_app, str_app, str_app, show n / 60 = n % 3600 / 60 by omega]
  unfold durText
  rw [if_neg (by omega), if_pos h0]
theorem dur_s_str (n : Int) (h0 : 0 ≤ n) (h1 : n < 60) : str (dec n) ++ str [115] = str (durText n) := by
  rw [str_app]
  unfold durText
  rw [if_neg (by omega), if_neg (by omega), show n % 60 = n by omega]

theorem rformat_yes (t : Int) (h0 : 0 ≤ t) (h1 : t ≤ 172800) (w : World) :
    Calls Tryd.prog 19 #[.int .i64 t] w fun e w' => e = .returned (.tuple #[.string (str (timeText t)), .int .i64 0]) ∧ Below w.heap.size w w' := by
  go_enter Tryd.func19, Tryd.ntmps19
  go_wp2_with fail
  refine (rvalid_yes t h0 h1 _).mono ?_
  rintro e w0 ⟨rfl, rfl⟩
  go_wp2_with fail
  refine (rtwo_any (t / 3600) (by omega) (by omega) _).mono ?_
  rintro e w1 ⟨rfl, b1⟩
  go_wp2_with fail
  refine (rtwo_any (t / 60 % 60) (by omega) (by omega) _).mono ?_
  rintro e w2 ⟨rfl, b2⟩
  go_wp2_with fail
  refine (rtwo_any (t % 60) (by omega) (by omega) _).mono ?_
  rintro e w3 ⟨rfl, b3⟩
  go_wp2_with fail
  go_ret2
  exact ⟨ret_str (time_str t), b1.trans ((b2.trans (b3.mono b2.size)).mono b1.size)⟩
theorem rformat_no (t : Int) (h : t < 0 ∨ 172800 < t) (w : World) :
    Calls Tryd.prog 19 #[.int .i64 t] w fun e w' => e = .returned (.tuple #[.string (str []), .int .i64 10]) ∧ w = w' := by
  go_enter Tryd.func19, Tryd.ntmps19
  go_wp2_with (go_at_call 14; refine (rvalid_no _ h _).mono ?_; rintro e w' ⟨rfl, rfl⟩)
  go_ret2
  exact ⟨rfl, rfl⟩

theorem rfmtDur_no (n : Int) (h : n < 0 ∨ 359999 < n) (w : World) :
    Calls Tryd.prog 23 #[.int .i64 n] w fun e w' => e = .returned (.tuple #[.string (str []), .int .i64 2]) ∧ w = w' := by
  rcases h with h | h
  · go_enter Tryd.func23, Tryd.ntmps23
    go_wp2_with fail
    go_ret2
    exact ⟨rfl, rfl⟩
  · have h0 : ¬ n < 0 := by omega
    go_enter Tryd.func23, Tryd.ntmps23
    go_wp2_with fail
    go_ret2
    exact ⟨rfl, rfl⟩
theorem rfmtDur_h (n : Int) (h0 : 3600 ≤ n) (h1 : n ≤ 359999) (w : World) :
    Calls Tryd.prog 23 #[.int .i64 n] w fun e w' => e = .returned (.tuple #[.string (str (durText n)), .int .i64 0]) ∧ Below w.heap.size w w' := by
  have hz : 0 ≤ n := by omega
  have l1 := dec_le (n / 3600) (by omega)
  have l2 := two_le (n / 60 % 60)
  have l3 := two_le (n % 60)
  go_enter Tryd.func23, Tryd.ntmps23
  go_wp2_with fail
  refine (rnumber_any (n / 3600) (by omega) (by omega) _).mono ?_
  rintro e w1 ⟨rfl, b1⟩
  go_wp2_with fail
  refine (rtwo_any (n / 60 % 60) (by omega) (by omega) _).mono ?_
  rintro e w2 ⟨rfl, b2⟩
  go_wp2_with fail
  refine (rtwo_any (n % 60) (by omega) (by omega) _).mono ?_
  rintro e w3 ⟨rfl, b3⟩
  go_wp2_with fail
  go_ret2
  exact ⟨ret_str (dur_h_str n h0), b1.trans ((b2.trans (b3.mono b2.size)).mono b1.size)⟩
theorem rfmtDur_m (n : Int) (h0 : 60 ≤ n) (h1 : n < 3600) (w : World) :
    Calls Tryd.prog 23 #[.int .i64 n] w fun e w' => e = .returned (.tuple #[.string (str (durText n)), .int .i64 0]) ∧ Below w.heap.size w w' := by
  have hz : 0 ≤ n := by omega
  have hz2 : ¬ 3600 ≤ n := by omega
  have l1 := dec_le (n / 60) (by omega)
  have l3 := two_le (n % 60)
  go_enter Tryd.func23, Tryd.ntmps23
  go_wp2_with fail
  refine (rnumber_any (n / 60) (by omega) (by omega) _).mono ?_
  rintro e w1 ⟨rfl, b1⟩
  go_wp2_with fail
  refine (rtwo_any (n % 60) (by omega) (by omega) _).mono ?_
  rintro e w2 ⟨rfl, b2⟩
  go_wp2_with fail
  go_ret2
  exact ⟨ret_str (dur_m_str n h0 h1), b1.trans (b2.mono b1.size)⟩
theorem rfmtDur_s (n : Int) (h0 : 0 ≤ n) (h1 : n < 60) (w : World) :
    Calls Tryd.prog 23 #[.int .i64 n] w fun e w' => e = .returned (.tuple #[.string (str (durText n)), .int .i64 0]) ∧ Below w.heap.size w w' := by
  have hz1 : ¬ 3600 ≤ n := by omega
  have hz2 : ¬ 60 ≤ n := by omega
  have l1 := dec_le n (by omega)
  go_enter Tryd.func23, Tryd.ntmps23
  go_wp2_with fail
  refine (rnumber_any n (by omega) (by omega) _).mono ?_
  rintro e w1 ⟨rfl, b1⟩
  go_wp2_with fail
  go_ret2
  exact ⟨ret_str (dur_s_str n h0 h1), b1⟩
theorem rfmtDur_yes (n : Int) (h0 : 0 ≤ n) (h1 : n ≤ 359999) (w : World) :
    Calls Tryd.prog 23 #[.int .i64 n] w fun e w' => e = .returned (.tuple #[.string (str (durText n)), .int .i64 0]) ∧ Below w.heap.size w w' := by
  by_cases hh : 3600 ≤ n
  · exact rfmtDur_h n hh h1 w
  · by_cases hm : 60 ≤ n
    · exact rfmtDur_m n hm (by omega) w
    · exact rfmtDur_s n h0 (by omega) w
end Go.Proofs.YtnojjmpcgbbofaaDoor
