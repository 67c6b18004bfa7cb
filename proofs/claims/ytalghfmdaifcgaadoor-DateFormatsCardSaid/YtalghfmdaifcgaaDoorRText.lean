/-
  The functions of the reference of package clock that write texts: what each call answers; nothing that existed before the call has changed behind it. Condition: the number is in the range that each theorem names.
-/
import Derived.Test.YtalghfmdaifcgaaDoorText
import Derived.Laws.BytesArg
import Derived.LoopN
namespace Go.Proofs.YtalghfmdaifcgaaDoor
open Go.RowKit

theorem conv2 (a b : Int) (w : World) :
    (convert 55 9 (.slice (some ⟨w.heap.size, 0, none⟩) 2 2)).run Tryd.prog (w.alloc (.cells #[.int .u8 a, .int .u8 b] 5)) = .ok (.string (str [UInt8.ofNat a.toNat, UInt8.ofNat b.toNat])) (w.alloc (.cells #[.int .u8 a, .int .u8 b] 5)) :=
  run_convert_bytes_arg (P := Tryd.prog) _ 55 5 Tryd.underlying55 Tryd.underlying5 w.heap.size 0 2 2 [a, b] rfl (by
    intro i hi
    match i, hi with
    | 0, _ => go_simp
    | 1, _ => go_simp) 9 Tryd.underlying9
theorem conv1 (a : Int) (w : World) :
    (convert 55 9 (.slice (some ⟨w.heap.size, 0, none⟩) 1 1)).run Tryd.prog (w.alloc (.cells #[.int .u8 a] 5)) = .ok (.string (str [UInt8.ofNat a.toNat])) (w.alloc (.cells #[.int .u8 a] 5)) :=
  run_convert_bytes_arg (P := Tryd.prog) _ 55 5 Tryd.underlying55 Tryd.underlying5 w.heap.size 0 1 1 [a] rfl (by
    intro i hi
    match i, hi with
    | 0, _ => go_simp) 9 Tryd.underlying9
theorem two_eq (x : Int) (h0 : 0 ≤ x) : [UInt8.ofNat (48 + x / 10).toNat, UInt8.ofNat (48 + x % 10).toNat] = two x := by
  unfold two
  rw [show (48 + x / 10).toNat = 48 + x.toNat / 10 by omega, show (48 + x % 10).toNat = 48 + x.toNat % 10 by omega]

theorem rtwo_any (x : Int) (h0 : 0 ≤ x) (h1 : x < 100) (w : World) :
    Calls Tryd.prog 59 #[.int .i64 x] w fun e w' => e = .returned (.string (str (two x))) ∧ Below w.heap.size w w' := by
  have hk := conv2 (48 + x / 10) (48 + x % 10) w
  rw [two_eq x h0] at hk
  go_enter Tryd.func59, Tryd.ntmps59
  go_wp2_with fail
  go_ret
  exact ⟨rfl, (Below.refl _ _).alloc (Nat.le_refl _) _⟩
theorem str_app (a b : List UInt8) : str a ++ str b = str (a ++ b) := by
  apply ByteArray.ext
  simp [str]
theorem ret_str {a b : ByteArray} (h : a = b) {n : Int} : Ending.returned (.tuple #[.string a, .int .i64 n]) = Ending.returned (.tuple #[.string b, .int .i64 n]) := by rw [h]
theorem time_str (t : Int) : str (two (t / 3600)) ++ str [58] ++ str (two (t / 60 % 60)) ++ str [58] ++ str (two (t % 60)) = str (timeText t) := by
  rw [str_app, str_app, str_app, str_app, show t / 60 % 60 = t % 3600 / 60 by omega]
  rfl
theorem dur_h_str (n : Int) (h : 3600 ≤ n) : str (dec (n / 3600)) ++ str [104] ++ str (two (n / 60 % 60)) ++ str [109] ++ str (two (n % 60)) ++ str [115] = str (durText n) := by
  rw [str_app, str_app, str_app, str_app, str_app, show n / 60 % 60 = n % 3600 / 60 by omega]
  unfold durText
  rw [if_pos h]
theorem dur_m_str (n : Int) (h0 : 60 ≤ n) (h1 : n < 3600) : str (dec (n / 60)) ++ str [109] ++ str (two (n % 60)) ++ str [115] = str (durText n) := by
  rw [str_app, str_app, str_app, show n / 60 = n % 3600 / 60 by omega]
  unfold durText
  rw [if_neg (by omega), if_pos h0]
theorem dur_s_str (n : Int) (h0 : 0 ≤ n) (h1 : n < 60) : str (dec n) ++ str [115] = str (durText n) := by
  rw [str_app]
  unfold durText
  rw [if_neg (by omega), if_neg (by omega), show n % 60 = n by omega]

theorem rformat_yes (t : Int) (h0 : 0 ≤ t) (h1 : t ≤ 172800) (w : World) :
    Calls Tryd.prog 53 #[.int .i64 t] w fun e w' => e = .returned (.tuple #[.string (str (timeText t)), .int .i64 0]) ∧ Below w.heap.size w w' := by
  go_enter Tryd.func53, Tryd.ntmps53
  go_wp2_with fail
  refine (rvalid_yes t h0 h1 _).mono ?_
  rintro e w0 ⟨rfl, rfl⟩
  go_wp2_with fail
  refine (rtwo_any (t / 3600) (by omega) (by omega) _).mono ?_
  rintro e w1 ⟨rfl, b1⟩
  go_wp2_with fail
  refine (rtwo_any (t / 60 % 60) (by omega) (by omega) _).mono ?_
  rintro e w2 ⟨rfl, b2⟩
  go_wp2_with fail
  refine (rtwo_any (t % 60) (by omega) (by omega) _).mono ?_
  rintro e w3 ⟨rfl, b3⟩
  go_wp2_with fail
  go_ret2
  exact ⟨ret_str (time_str t), b1.trans ((b2.trans (b3.mono b2.size)).mono b1.size)⟩
theorem rformat_no (t : Int) (h : t < 0 ∨ 172800 < t) (w : World) :
    Calls Tryd.prog 53 #[.int .i64 t] w fun e w' => e = .returned (.tuple #[.string (str []), .int .i64 10]) ∧ w = w' := by
  go_enter Tryd.func53, Tryd.ntmps53
  go_wp2_with (go_at_call 51; refine (rvalid_no _ h _).mono ?_; rintro e w' ⟨rfl, rfl⟩)
  go_ret2
  exact ⟨rfl, rfl⟩

end Go.Proofs.YtalghfmdaifcgaaDoor
