/-
  ParseDuration of package clock: what each call answers; nothing that existed before the call has changed behind it. Condition: none beyond each theorem's own hypotheses.
-/
import Derived.Test.YtnojjmpcgbbofaaDoorCut
import Derived.Test.YtnojjmpcgbbofaaDoorDurs
import Derived.Test.YtnojjmpcgbbofaaDoorParse
namespace Go.Proofs.YtnojjmpcgbbofaaDoor
open Go.RowKit

theorem size_str (l : List UInt8) : (str l).size = l.length := by show l.toArray.size = _; simp
theorem ne_nil (s : ByteArray) (h : 0 < s.size) : s.toList.isEmpty = false := by
  rw [Lib.toList_data]
  have : s.data.toList.length = s.size := rfl
  cases hl : s.data.toList with
  | nil => rw [hl] at this; simp at this; omega
  | cons a t => rfl

theorem isPos_nil (s : ByteArray) (h : s.size = 0) (w : World) :
    Calls Tryd.prog 52 #[.string s] w fun e w' => e = .returned (.bool false) ∧ Below w.heap.size w w' := by
  obtain rfl : s = ⟨#[]⟩ := by
    obtain ⟨⟨l⟩⟩ := s
    have : l.length = 0 := h
    cases l with
    | nil => rfl
    | cons a t => simp at this
  go_enter Tryd.func52, Tryd.ntmps52
  go_wp2_with fail
  go_ret
  exact ⟨rfl, Below.refl _ _⟩
theorem isPos_zero (s : ByteArray) (h : 0 < s.size) (h0 : s[0].toNat = 48) (w : World) :
    Calls Tryd.prog 52 #[.string s] w fun e w' => e = .returned (.bool false) ∧ Below w.heap.size w w' := by
  have hn := ne_nil s h
  have k0 : ∀ W, (Instr.index 9 (.string s) (.int .i64 0)).run Tryd.prog W = .ok (.int .u8 s[0].toNat) W := run_at s 0 h
  have c0 : (((s[0].toNat : Nat) : Int) != 48) = false := by rw [h0]; rfl
  clear h0
  go_enter Tryd.func52, Tryd.ntmps52
  go_wp2_with fail
  go_ret
  exact ⟨rfl, Below.refl _ _⟩
theorem isPos_digs (s : ByteArray) (h : 0 < s.size) (h0 : s[0].toNat ≠ 48) (hd : digs s.data.toList = false) (w : World) :
    Calls Tryd.prog 52 #[.string s] w fun e w' => e = .returned (.bool false) ∧ Below w.heap.size w w' := by
  have hn := ne_nil s h
  have k0 : ∀ W, (Instr.index 9 (.string s) (.int .i64 0)).run Tryd.prog W = .ok (.int .u8 s[0].toNat) W := run_at s 0 h
  have c0 : (((s[0].toNat : Nat) : Int) != 48) = true := bne_true (by omega)
  have HD := Lib.hid hd
  clear h0 hd
  go_enter Tryd.func52, Tryd.ntmps52
  go_wp2_with fail
  refine (allDigits_no s HD.out _).mono ?_
  rintro e w1 ⟨rfl, b1⟩
  go_wp2_with fail
  go_ret
  exact ⟨rfl, b1⟩
theorem isPos_ok (s : ByteArray) (h : 0 < s.size) (h0 : s[0].toNat ≠ 48) (hd : digs s.data.toList = true) (w : World) :
    Calls Tryd.prog 52 #[.string s] w fun e w' => e = .returned (.bool true) ∧ Below w.heap.size w w' := by
  have hn := ne_nil s h
  have k0 : ∀ W, (Instr.index 9 (.string s) (.int .i64 0)).run Tryd.prog W = .ok (.int .u8 s[0].toNat) W := run_at s 0 h
  have c0 : (((s[0].toNat : Nat) : Int) != 48) = true := bne_true (by omega)
  have HD := Lib.hid hd
  clear h0 hd
  go_enter Tryd.func52, Tryd.ntmps52
  go_wp2_with fail
  refine (allDigits_yes s HD.out _).mono ?_
  rintro e w1 ⟨rfl, b1⟩
  go_wp2_with fail
  go_ret
  exact ⟨rfl, b1⟩
theorem isPos_any (l : List UInt8) (w : World) :
    Calls Tryd.prog 52 #[.string (str l)] w fun e w' => e = .returned (.bool (posD l)) ∧ Below w.heap.size w w' := by
  have hz := size_str l
  cases l with
  | nil => exact isPos_nil _ hz w
  | cons c t =>
    have h : 0 < (str (c :: t)).size := by rw [hz]; simp
    have hc : (str (c :: t))[0] = c := rfl
    by_cases h0 : c.toNat = 48
    · obtain rfl : c = 48 := UInt8.toNat_inj.1 h0
      have hp : posD (48 :: t) = false := by unfold posD; simp
      rw [hp]
      exact isPos_zero _ h h0 w
    · have hne : c ≠ 48 := fun hx => h0 (by rw [hx]; rfl)
      cases hd : digs (c :: t) with
      | false =>
        have hp : posD (c :: t) = false := by unfold posD; rw [hd]; simp
        rw [hp]
        exact isPos_digs _ h h0 hd w
      | true =>
        have hp : posD (c :: t) = true := (posD_iff _).2 ⟨by simp, by simp [hne], hd⟩
        rw [hp]
        exact isPos_ok _ h h0 hd w

theorem value_str (l : List UInt8) (hd : digs l = true) (hl : l.length ≤ 6) (w : World) :
    Calls Tryd.prog 33 #[.string (str l)] w fun e w' => e = .returned (.int .i64 (valN l)) ∧ Below w.heap.size w w' :=
  value_any (str l) hd (by rw [size_str]; exact hl) w

theorem later_len (l : List UInt8) (h : l.length ≠ 2) (w : World) :
    Calls Tryd.prog 51 #[.string (str l)] w fun e w' => e = .returned (.tuple #[.int .i64 0, .bool false]) ∧ Below w.heap.size w w' := by
  have hz := size_str l
  have c0 : (((str l).size : Int) != 2) = true := bne_true (by omega)
  clear hz h
  generalize str l = s at c0 ⊢
  go_enter Tryd.func51, Tryd.ntmps51
  go_wp2_with fail
  go_ret2
  exact ⟨rfl, Below.refl _ _⟩
theorem later_digs (l : List UInt8) (h : l.length = 2) (hd : digs l = false) (w : World) :
    Calls Tryd.prog 51 #[.string (str l)] w fun e w' => e = .returned (.tuple #[.int .i64 0, .bool false]) ∧ Below w.heap.size w w' := by
  have hz := size_str l
  have c0 : (((str l).size : Int) != 2) = false := by rw [hz, h]; rfl
  have HC := Lib.hid (allDigits_no (str l) hd)
  clear hz h hd
  generalize str l = s at c0 HC ⊢
  go_enter Tryd.func51, Tryd.ntmps51
  go_wp2_with fail
  refine (HC.out _).mono ?_
  rintro e w1 ⟨rfl, b1⟩
  go_wp2_with fail
  go_ret2
  exact ⟨rfl, b1⟩
theorem later_big (l : List UInt8) (h : l.length = 2) (hd : digs l = true) (hv : ¬ valN l < 60) (w : World) :
    Calls Tryd.prog 51 #[.string (str l)] w fun e w' => e = .returned (.tuple #[.int .i64 0, .bool false]) ∧ Below w.heap.size w w' := by
  have hz := size_str l
  have c0 : (((str l).size : Int) != 2) = false := by rw [hz, h]; rfl
  have HC := Lib.hid (allDigits_yes (str l) hd)
  have HV := Lib.hid (value_str l hd (by omega))
  clear hz h hd
  generalize str l = s at c0 HC HV ⊢
  go_enter Tryd.func51, Tryd.ntmps51
  go_wp2_with fail
  refine (HC.out _).mono ?_
  rintro e w1 ⟨rfl, b1⟩
  go_wp2_with fail
  refine (HV.out _).mono ?_
  rintro e w2 ⟨rfl, b2⟩
  go_wp2_with fail
  refine (sixtieth_no _ (by omega) _).mono ?_
  rintro e w3 ⟨rfl, rfl⟩
  go_wp2_with fail
  go_ret2
  exact ⟨rfl, b1.trans (b2.mono b1.size)⟩
theorem later_ok (l : List UInt8) (h : l.length = 2) (hd : digs l = true) (hv : valN l < 60) (w : World) :
    Calls Tryd.prog 51 #[.string (str l)] w fun e w' => e = .returned (.tuple #[.int .i64 (valN l), .bool true]) ∧ Below w.heap.size w w' := by
  have hz := size_str l
  have c0 : (((str l).size : Int) != 2) = false := by rw [hz, h]; rfl
  have HC := Lib.hid (allDigits_yes (str l) hd)
  have HV := Lib.hid (value_str l hd (by omega))
  clear hz h hd
  generalize str l = s at c0 HC HV ⊢
  go_enter Tryd.func51, Tryd.ntmps51
  go_wp2_with fail
  refine (HC.out _).mono ?_
  rintro e w1 ⟨rfl, b1⟩
  go_wp2_with fail
  refine (HV.out _).mono ?_
  rintro e w2 ⟨rfl, b2⟩
  go_wp2_with fail
  refine (sixtieth_yes _ (by omega) (by omega) _).mono ?_
  rintro e w3 ⟨rfl, rfl⟩
  go_wp2_with fail
  refine (HV.out _).mono ?_
  rintro e w4 ⟨rfl, b4⟩
  go_wp2_with fail
  go_ret2
  exact ⟨rfl, b1.trans ((b2.trans (b4.mono b2.size)).mono b1.size)⟩
theorem later_no (l : List UInt8) (h : laterD l = false) (w : World) :
    Calls Tryd.prog 51 #[.string (str l)] w fun e w' => e = .returned (.tuple #[.int .i64 0, .bool false]) ∧ Below w.heap.size w w' := by
  by_cases h2 : l.length = 2
  · cases hd : digs l with
    | false => exact later_digs l h2 hd w
    | true =>
      by_cases hv : valN l < 60
      · rw [(laterD_iff l).2 ⟨h2, hd, hv⟩] at h; cases h
      · exact later_big l h2 hd hv w
  · exact later_len l h2 w
theorem later_yes (l : List UInt8) (h : laterD l = true) (w : World) :
    Calls Tryd.prog 51 #[.string (str l)] w fun e w' => e = .returned (.tuple #[.int .i64 (valN l), .bool true]) ∧ Below w.heap.size w w' := by
  obtain ⟨h2, hd, hv⟩ := (laterD_iff l).1 h
  exact later_ok l h2 hd hv w

theorem first_pos (l : List UInt8) (h : posD l = false) (w : World) :
    Calls Tryd.prog 42 #[.string (str l)] w fun e w' => e = .returned (.tuple #[.int .i64 0, .bool false]) ∧ Below w.heap.size w w' := by
  have hc := isPos_any l
  rw [h] at hc
  have HC := Lib.hid hc
  clear hc h
  generalize str l = s at HC ⊢
  go_enter Tryd.func42, Tryd.ntmps42
  go_wp2_with fail
  refine (HC.out _).mono ?_
  rintro e w1 ⟨rfl, b1⟩
  go_wp2_with fail
  go_ret2
  exact ⟨rfl, b1⟩
theorem first_len (l : List UInt8) (h : posD l = true) (hl : ¬ l.length ≤ 2) (w : World) :
    Calls Tryd.prog 42 #[.string (str l)] w fun e w' => e = .returned (.tuple #[.int .i64 0, .bool false]) ∧ Below w.heap.size w w' := by
  have hc := isPos_any l
  rw [h] at hc
  have HC := Lib.hid hc
  have hz : 2 < (str l).size := by rw [size_str]; omega
  have hi : (2 : Int) < (str l).size := by omega
  clear hc h hl
  generalize str l = s at HC hz hi ⊢
  go_enter Tryd.func42, Tryd.ntmps42
  go_wp2_with fail
  refine (HC.out _).mono ?_
  rintro e w1 ⟨rfl, b1⟩
  go_wp2_with fail
  go_ret2
  exact ⟨rfl, b1⟩
theorem first_big (l : List UInt8) (h : posD l = true) (hl : l.length ≤ 2) (hv : ¬ valN l < 60) (w : World) :
    Calls Tryd.prog 42 #[.string (str l)] w fun e w' => e = .returned (.tuple #[.int .i64 0, .bool false]) ∧ Below w.heap.size w w' := by
  have hc := isPos_any l
  rw [h] at hc
  have HC := Lib.hid hc
  have HV := Lib.hid (value_str l ((posD_iff l).1 h).2.2 (by omega))
  have hz : ¬ 2 < (str l).size := by rw [size_str]; omega
  have hd : decide (2 < (str l).size) = false := decide_eq_false hz
  have hi : ¬ (2 : Int) < (str l).size := by omega
  have hj : decide ((2 : Int) < (str l).size) = false := decide_eq_false hi
  clear hc h hl
  generalize str l = s at HC HV hz hi hd hj ⊢
  go_enter Tryd.func42, Tryd.ntmps42
  go_wp2_with fail
  refine (HC.out _).mono ?_
  rintro e w1 ⟨rfl, b1⟩
  go_wp2_with fail
  refine (HV.out _).mono ?_
  rintro e w2 ⟨rfl, b2⟩
  go_wp2_with fail
  refine (sixtieth_no _ (by omega) _).mono ?_
  rintro e w3 ⟨rfl, rfl⟩
  go_wp2_with fail
  go_ret2
  exact ⟨rfl, b1.trans (b2.mono b1.size)⟩
theorem first_ok (l : List UInt8) (h : posD l = true) (hl : l.length ≤ 2) (hv : valN l < 60) (w : World) :
    Calls Tryd.prog 42 #[.string (str l)] w fun e w' => e = .returned (.tuple #[.int .i64 (valN l), .bool true]) ∧ Below w.heap.size w w' := by
  have hc := isPos_any l
  rw [h] at hc
  have HC := Lib.hid hc
  have HV := Lib.hid (value_str l ((posD_iff l).1 h).2.2 (by omega))
  have hz : ¬ 2 < (str l).size := by rw [size_str]; omega
  have hd : decide (2 < (str l).size) = false := decide_eq_false hz
  have hi : ¬ (2 : Int) < (str l).size := by omega
  have hj : decide ((2 : Int) < (str l).size) = false := decide_eq_false hi
  clear hc h hl
  generalize str l = s at HC HV hz hi hd hj ⊢
  go_enter Tryd.func42, Tryd.ntmps42
  go_wp2_with fail
  refine (HC.out _).mono ?_
  rintro e w1 ⟨rfl, b1⟩
  go_wp2_with fail
  refine (HV.out _).mono ?_
  rintro e w2 ⟨rfl, b2⟩
  go_wp2_with fail
  refine (sixtieth_yes _ (by omega) (by omega) _).mono ?_
  rintro e w3 ⟨rfl, rfl⟩
  go_wp2_with fail
  refine (HV.out _).mono ?_
  rintro e w4 ⟨rfl, b4⟩
  go_wp2_with fail
  go_ret2
  exact ⟨rfl, b1.trans ((b2.trans (b4.mono b2.size)).mono b1.size)⟩
theorem first_no (l : List UInt8) (h : firstD l = false) (w : World) :
    Calls Tryd.prog 42 #[.string (str l)] w fun e w' => e = .returned (.tuple #[.int .i64 0, .bool false]) ∧ Below w.heap.size w w' := by
  cases hp : posD l with
  | false => exact first_pos l hp w
  | true =>
    by_cases h2 : l.length ≤ 2
    · by_cases hv : valN l < 60
      · rw [(firstD_iff l).2 ⟨hp, h2, hv⟩] at h; cases h
      · exact first_big l hp h2 hv w
    · exact first_len l hp h2 w
theorem first_yes (l : List UInt8) (h : firstD l = true) (w : World) :
    Calls Tryd.prog 42 #[.string (str l)] w fun e w' => e = .returned (.tuple #[.int .i64 (valN l), .bool true]) ∧ Below w.heap.size w w' := by
  obtain ⟨hp, h2, hv⟩ := (firstD_iff l).1 h
  exact first_ok l hp h2 hv w

theorem ret_two {a b c d : Int} (h : a = c) (k : b = d) : Ending.returned (.tuple #[.int .i64 a, .int .i64 b]) = .returned (.tuple #[.int .i64 c, .int .i64 d]) := by rw [h, k]

/-- laterSixtieth, whatever the text: its second answer alone is told. -/
theorem later_any (l : List UInt8) : ∃ v : Int, 0 ≤ v ∧ v < 60 ∧ (laterD l = true → v = valN l) ∧ ∀ w : World,
    Calls Tryd.prog 51 #[.string (str l)] w fun e w' => e = .returned (.tuple #[.int .i64 v, .bool (laterD l)]) ∧ Below w.heap.size w w' := by
  cases h : laterD l with
  | false => exact ⟨0, by omega, by omega, (fun hx => by cases hx), later_no l h⟩
  | true => exact ⟨valN l, by omega, by have := ((laterD_iff l).1 h).2.2; omega, fun _ => rfl, later_yes l h⟩
theorem first_any (l : List UInt8) : ∃ v : Int, 0 ≤ v ∧ v < 60 ∧ (firstD l = true → v = valN l) ∧ ∀ w : World,
    Calls Tryd.prog 42 #[.string (str l)] w fun e w' => e = .returned (.tuple #[.int .i64 v, .bool (firstD l)]) ∧ Below w.heap.size w w' := by
  cases h : firstD l with
  | false => exact ⟨0, by omega, by omega, (fun hx => by cases hx), first_no l h⟩
  | true => exact ⟨valN l, by omega, by have := ((firstD_iff l).1 h).2.2; omega, fun _ => rfl, first_yes l h⟩

/-- What parseHours answers, by what its callees answered. -/
def hRes (found mok sok pos big : Bool) (v m s : Int) : Int × Int :=
  if found && mok && sok && pos then (if big then (0, 2) else (v * 3600 + m * 60 + s, 0)) else (0, 3)

/-- parseHours in terms of what its callees answer. -/
theorem hours_core (hs ts ms ss : ByteArray) (found mok sok pos big : Bool) (m s : Int) (m0 : 0 ≤ m) (m1 : m < 60) (s0 : 0 ≤ s) (s1 : s < 60) (v : Int) (v0 : 0 ≤ v) (v1 : v ≤ 99)
    (hc : ∀ w : World, Calls Tryd.prog 39 #[.string ts, .string ⟨#[109]⟩] w fun e w' => e = .returned (.tuple #[.string ms, .string ss, .bool found]) ∧ Below w.heap.size w w')
    (hm : ∀ w : World, Calls Tryd.prog 51 #[.string ms] w fun e w' => e = .returned (.tuple #[.int .i64 m, .bool mok]) ∧ Below w.heap.size w w')
    (hz : ∀ w : World, Calls Tryd.prog 51 #[.string ss] w fun e w' => e = .returned (.tuple #[.int .i64 s, .bool sok]) ∧ Below w.heap.size w w')
    (hp : ∀ w : World, Calls Tryd.prog 52 #[.string hs] w fun e w' => e = .returned (.bool pos) ∧ Below w.heap.size w w')
    (hb : big = true → (2 : Int) < (hs.size : Int)) (hl : big = false → ¬ (2 : Int) < (hs.size : Int))
    (hv : pos = true → big = false → ∀ w : World, Calls Tryd.prog 33 #[.string hs] w fun e w' => e = .returned (.int .i64 v) ∧ Below w.heap.size w w') (w : World) :
    Calls Tryd.prog 40 #[.string hs, .string ts] w fun e w' =>
      e = .returned (.tuple #[.int .i64 (hRes found mok sok pos big v m s).1, .int .i64 (hRes found mok sok pos big v m s).2]) ∧ Below w.heap.size w w' := by
  have HC := Lib.hid hc
  have HM := Lib.hid hm
  have HZ := Lib.hid hz
  have HP := Lib.hid hp
  have HV := Lib.hid hv
  have HB := Lib.hid hb
  have HL := Lib.hid hl
  clear hc hm hz hp hv hb hl
  cases found
  · go_enter Tryd.func40, Tryd.ntmps40
    go_wp2_with fail
    refine (HC.out _).mono ?_
    rintro e w1 ⟨rfl, b1⟩
    go_wp2_with fail
    refine (HM.out _).mono ?_
    rintro e w2 ⟨rfl, b2⟩
    go_wp2_with fail
    refine (HZ.out _).mono ?_
    rintro e w3 ⟨rfl, b3⟩
    go_wp2_with fail
    go_ret2
    exact ⟨rfl, b1.trans ((b2.trans (b3.mono b2.size)).mono b1.size)⟩
  cases mok
  · go_enter Tryd.func40, Tryd.ntmps40
    go_wp2_with fail
    refine (HC.out _).mono ?_
    rintro e w1 ⟨rfl, b1⟩
    go_wp2_with fail
    refine (HM.out _).mono ?_
    rintro e w2 ⟨rfl, b2⟩
    go_wp2_with fail
    refine (HZ.out _).mono ?_
    rintro e w3 ⟨rfl, b3⟩
    go_wp2_with fail
    go_ret2
    exact ⟨rfl, b1.trans ((b2.trans (b3.mono b2.size)).mono b1.size)⟩
  cases sok
  · go_enter Tryd.func40, Tryd.ntmps40
    go_wp2_with fail
    refine (HC.out _).mono ?_
    rintro e w1 ⟨rfl, b1⟩
    go_wp2_with fail
    refine (HM.out _).mono ?_
    rintro e w2 ⟨rfl, b2⟩
    go_wp2_with fail
    refine (HZ.out _).mono ?_
    rintro e w3 ⟨rfl, b3⟩
    go_wp2_with fail
    go_ret2
    exact ⟨rfl, b1.trans ((b2.trans (b3.mono b2.size)).mono b1.size)⟩
  cases pos
  · go_enter Tryd.func40, Tryd.ntmps40
    go_wp2_with fail
    refine (HC.out _).mono ?_
    rintro e w1 ⟨rfl, b1⟩
    go_wp2_with fail
    refine (HM.out _).mono ?_
    rintro e w2 ⟨rfl, b2⟩
    go_wp2_with fail
    refine (HZ.out _).mono ?_
    rintro e w3 ⟨rfl, b3⟩
    go_wp2_with fail
    refine (HP.out _).mono ?_
    rintro e w4 ⟨rfl, b4⟩
    go_wp2_with fail
    go_ret2
    exact ⟨rfl, (b1.trans (b2.mono b1.size)).trans ((b3.trans (b4.mono b3.size)).mono (Nat.le_trans b1.size b2.size))⟩
  cases big
  · have i2 := HL.out rfl
    have HW := Lib.hid (HV.out rfl rfl)
    clear HV
    go_enter Tryd.func40, Tryd.ntmps40
    go_wp2_with fail
    refine (HC.out _).mono ?_
    rintro e w1 ⟨rfl, b1⟩
    go_wp2_with fail
    refine (HM.out _).mono ?_
    rintro e w2 ⟨rfl, b2⟩
    go_wp2_with fail
    refine (HZ.out _).mono ?_
    rintro e w3 ⟨rfl, b3⟩
    go_wp2_with fail
    refine (HP.out _).mono ?_
    rintro e w4 ⟨rfl, b4⟩
    go_wp2_with fail
    refine (HW.out _).mono ?_
    rintro e w5 ⟨rfl, b5⟩
    go_wp2_with fail
    refine (combine_any _ _ _ (by omega) (by omega) (by omega) (by omega) (by omega) (by omega) _).mono ?_
    rintro e w6 ⟨rfl, rfl⟩
    go_wp2_with fail
    go_ret2
    exact ⟨rfl, ((b1.trans (b2.mono b1.size)).trans ((b3.trans (b4.mono b3.size)).mono (Nat.le_trans b1.size b2.size))).trans (b5.mono (Nat.le_trans (Nat.le_trans b1.size b2.size) (Nat.le_trans b3.size b4.size)))⟩
  · have i2 := HB.out rfl
    go_enter Tryd.func40, Tryd.ntmps40
    go_wp2_with fail
    refine (HC.out _).mono ?_
    rintro e w1 ⟨rfl, b1⟩
    go_wp2_with fail
    refine (HM.out _).mono ?_
    rintro e w2 ⟨rfl, b2⟩
    go_wp2_with fail
    refine (HZ.out _).mono ?_
    rintro e w3 ⟨rfl, b3⟩
    go_wp2_with fail
    refine (HP.out _).mono ?_
    rintro e w4 ⟨rfl, b4⟩
    go_wp2_with fail
    go_ret2
    exact ⟨rfl, (b1.trans (b2.mono b1.size)).trans ((b3.trans (b4.mono b3.size)).mono (Nat.le_trans b1.size b2.size))⟩

theorem valN_two (l : List UInt8) (hd : digs l = true) (h : l.length ≤ 2) : valN l ≤ 99 := by
  have h1 := valN_lt l hd
  have h2 : 10 ^ l.length ≤ 10 ^ 2 := Nat.pow_le_pow_right (by decide) h
  omega

theorem hours_any (H T : List UInt8) (hl : T.length ≤ 9223372036854775807) (w : World) :
    Calls Tryd.prog 40 #[.string (str H), .string (str T)] w fun e w' => e = .returned (.tuple #[.int .i64 (hoursR H T).1, .int .i64 (hoursR H T).2]) ∧ Below w.heap.size w w' := by
  have hz := size_str H
  have hsz : ∀ b : Bool, b = decide (2 < H.length) → (b = true → (2 : Int) < ((str H).size : Int)) ∧ (b = false → ¬ (2 : Int) < ((str H).size : Int)) := by
    intro b hb
    subst hb
    rw [hz]
    simp
    omega
  by_cases h : 109 ∈ T
  · obtain ⟨M, S, rfl, hn, e1, e2⟩ := split_at 109 T h
    obtain ⟨m, m0, m1, me, cm⟩ := later_any M
    obtain ⟨s, s0, s1, se, cs⟩ := later_any S
    have key := hours_core (str H) (str (M ++ 109 :: S)) (str M) (str S) true (laterD M) (laterD S) (posD H) (decide (2 < H.length)) m s m0 m1 s0 s1 (if posD H = true ∧ H.length ≤ 2 then valN H else 0)
      (by split <;> omega) (by split; · have := valN_two H ((posD_iff H).1 (by simp_all)).2.2 (by simp_all); omega
                               · omega)
      (cut_hit 109 M S hn hl) cm cs (isPos_any H) (hsz _ rfl).1 (hsz _ rfl).2
      (fun hp hb => by
        have hb2 : H.length ≤ 2 := by simpa using hb
        rw [if_pos ⟨hp, hb2⟩]
        exact value_str H ((posD_iff H).1 hp).2.2 (by omega)) w
    have e : hRes true (laterD M) (laterD S) (posD H) (decide (2 < H.length)) (if posD H = true ∧ H.length ≤ 2 then valN H else 0) m s = hoursR H (M ++ 109 :: S) := by
      unfold hRes hoursR
      rw [e1, e2]
      cases hM : laterD M with
      | false => simp
      | true =>
        cases hS : laterD S with
        | false => simp
        | true =>
          cases hP : posD H with
          | false => simp
          | true =>
            rw [me hM, se hS]
            by_cases h2 : 2 < H.length
            · simp [h2]
            · simp [h2, show H.length ≤ 2 by omega]
    rw [e] at key
    exact key
  · obtain ⟨m, m0, m1, _, cm⟩ := later_any T
    obtain ⟨s, s0, s1, _, cs⟩ := later_any []
    have key := hours_core (str H) (str T) (str T) (str []) false (laterD T) (laterD []) (posD H) (decide (2 < H.length)) m s m0 m1 s0 s1 (if posD H = true ∧ H.length ≤ 2 then valN H else 0)
      (by split <;> omega) (by split; · have := valN_two H ((posD_iff H).1 (by simp_all)).2.2 (by simp_all); omega
                               · omega)
      (cut_miss 109 T h) cm cs (isPos_any H) (hsz _ rfl).1 (hsz _ rfl).2
      (fun hp hb => by
        have hb2 : H.length ≤ 2 := by simpa using hb
        rw [if_pos ⟨hp, hb2⟩]
        exact value_str H ((posD_iff H).1 hp).2.2 (by omega)) w
    have e : hRes false (laterD T) (laterD []) (posD H) (decide (2 < H.length)) (if posD H = true ∧ H.length ≤ 2 then valN H else 0) m s = hoursR H T := by
      unfold hRes hoursR
      simp [h]
    rw [e] at key
    exact key

/-- What parseMinutes answers, by what its callees answered. -/
def mRes (mok sok : Bool) (m s : Int) : Int × Int := if mok && sok then (m * 60 + s, 0) else (0, 3)
theorem minutes_core (ms ss : ByteArray) (mok sok : Bool) (m s : Int) (m0 : 0 ≤ m) (m1 : m < 60) (s0 : 0 ≤ s) (s1 : s < 60)
    (hm : ∀ w : World, Calls Tryd.prog 42 #[.string ms] w fun e w' => e = .returned (.tuple #[.int .i64 m, .bool mok]) ∧ Below w.heap.size w w')
    (hz : ∀ w : World, Calls Tryd.prog 51 #[.string ss] w fun e w' => e = .returned (.tuple #[.int .i64 s, .bool sok]) ∧ Below w.heap.size w w') (w : World) :
    Calls Tryd.prog 41 #[.string ms, .string ss] w fun e w' => e = .returned (.tuple #[.int .i64 (mRes mok sok m s).1, .int .i64 (mRes mok sok m s).2]) ∧ Below w.heap.size w w' := by
  have HM := Lib.hid hm
  have HZ := Lib.hid hz
  clear hm hz
  cases mok
  · go_enter Tryd.func41, Tryd.ntmps41
    go_wp2_with fail
    refine (HM.out _).mono ?_
    rintro e w1 ⟨rfl, b1⟩
    go_wp2_with fail
    refine (HZ.out _).mono ?_
    rintro e w2 ⟨rfl, b2⟩
    go_wp2_with fail
    go_ret2
    exact ⟨rfl, b1.trans (b2.mono b1.size)⟩
  cases sok
  · go_enter Tryd.func41, Tryd.ntmps41
    go_wp2_with fail
    refine (HM.out _).mono ?_
    rintro e w1 ⟨rfl, b1⟩
    go_wp2_with fail
    refine (HZ.out _).mono ?_
    rintro e w2 ⟨rfl, b2⟩
    go_wp2_with fail
    go_ret2
    exact ⟨rfl, b1.trans (b2.mono b1.size)⟩
  · go_enter Tryd.func41, Tryd.ntmps41
    go_wp2_with fail
    refine (HM.out _).mono ?_
    rintro e w1 ⟨rfl, b1⟩
    go_wp2_with fail
    refine (HZ.out _).mono ?_
    rintro e w2 ⟨rfl, b2⟩
    go_wp2_with fail
    refine (combine_any 0 m s (by omega) (by omega) (by omega) (by omega) (by omega) (by omega) _).mono ?_
    rintro e w3 ⟨rfl, rfl⟩
    go_wp2_with fail
    go_ret2
    exact ⟨ret_two (by simp [mRes]) rfl, b1.trans (b2.mono b1.size)⟩
theorem minutes_any (M S : List UInt8) (w : World) :
    Calls Tryd.prog 41 #[.string (str M), .string (str S)] w fun e w' => e = .returned (.tuple #[.int .i64 (minutesR M S).1, .int .i64 (minutesR M S).2]) ∧ Below w.heap.size w w' := by
  obtain ⟨m, m0, m1, me, cm⟩ := first_any M
  obtain ⟨s, s0, s1, se, cs⟩ := later_any S
  have key := minutes_core (str M) (str S) (firstD M) (laterD S) m s m0 m1 s0 s1 cm cs w
  have e : mRes (firstD M) (laterD S) m s = minutesR M S := by
    unfold mRes minutesR
    cases hM : firstD M with
    | false => simp
    | true =>
      cases hS : laterD S with
      | false => simp
      | true => rw [me hM, se hS]; simp
  rw [e] at key
  exact key

theorem pd_none (l : List UInt8) (hn : List.isSuffixOf [115] l = false) (hl : l.length ≤ 9223372036854775807) (w : World) :
    Calls Tryd.prog 24 #[.string (str l)] w fun e w' => e = .returned (.tuple #[.int .i64 0, .int .i64 3]) ∧ Below w.heap.size w w' := by
  have HC := Lib.hid (suffix_miss 115 l hn hl)
  clear hn hl
  generalize str l = s at HC ⊢
  go_enter Tryd.func24, Tryd.ntmps24
  go_wp2_with fail
  refine (HC.out _).mono ?_
  rintro e w1 ⟨rfl, rfl⟩
  go_wp2_with fail
  go_ret2
  exact ⟨rfl, Below.refl _ _⟩
/-- An h is found. -/
theorem pd_h (s r H T : ByteArray) (v e0 : Int)
    (hc : ∀ w : World, Calls Tryd.prog 38 #[.string s, .string ⟨#[115]⟩] w fun e w' => e = .returned (.tuple #[.string r, .bool true]) ∧ w = w')
    (hh : ∀ w : World, Calls Tryd.prog 39 #[.string r, .string ⟨#[104]⟩] w fun e w' => e = .returned (.tuple #[.string H, .string T, .bool true]) ∧ Below w.heap.size w w')
    (hp : ∀ w : World, Calls Tryd.prog 40 #[.string H, .string T] w fun e w' => e = .returned (.tuple #[.int .i64 v, .int .i64 e0]) ∧ Below w.heap.size w w') (w : World) :
    Calls Tryd.prog 24 #[.string s] w fun e w' => e = .returned (.tuple #[.int .i64 v, .int .i64 e0]) ∧ Below w.heap.size w w' := by
  have HC := Lib.hid hc
  have HH := Lib.hid hh
  have HP := Lib.hid hp
  clear hc hh hp
  go_enter Tryd.func24, Tryd.ntmps24
  go_wp2_with fail
  refine (HC.out _).mono ?_
  rintro e w1 ⟨rfl, rfl⟩
  go_wp2_with fail
  refine (HH.out _).mono ?_
  rintro e w1 ⟨rfl, b1⟩
  go_wp2_with fail
  refine (HP.out _).mono ?_
  rintro e w2 ⟨rfl, b2⟩
  go_wp2_with fail
  go_ret2
  exact ⟨rfl, b1.trans (b2.mono b1.size)⟩
/-- No h, but an m is found. -/
theorem pd_m (s r M S : ByteArray) (v e0 : Int)
    (hc : ∀ w : World, Calls Tryd.prog 38 #[.string s, .string ⟨#[115]⟩] w fun e w' => e = .returned (.tuple #[.string r, .bool true]) ∧ w = w')
    (hh : ∀ w : World, Calls Tryd.prog 39 #[.string r, .string ⟨#[104]⟩] w fun e w' => e = .returned (.tuple #[.string r, .string (str []), .bool false]) ∧ Below w.heap.size w w')
    (hm : ∀ w : World, Calls Tryd.prog 39 #[.string r, .string ⟨#[109]⟩] w fun e w' => e = .returned (.tuple #[.string M, .string S, .bool true]) ∧ Below w.heap.size w w')
    (hp : ∀ w : World, Calls Tryd.prog 41 #[.string M, .string S] w fun e w' => e = .returned (.tuple #[.int .i64 v, .int .i64 e0]) ∧ Below w.heap.size w w') (w : World) :
    Calls Tryd.prog 24 #[.string s] w fun e w' => e = .returned (.tuple #[.int .i64 v, .int .i64 e0]) ∧ Below w.heap.size w w' := by
  have HC := Lib.hid hc
  have HH := Lib.hid hh
  have HM := Lib.hid hm
  have HP := Lib.hid hp
  clear hc hh hm hp
  go_enter Tryd.func24, Tryd.ntmps24
  go_wp2_with fail
  refine (HC.out _).mono ?_
  rintro e w1 ⟨rfl, rfl⟩
  go_wp2_with fail
  refine (HH.out _).mono ?_
  rintro e w1 ⟨rfl, b1⟩
  go_wp2_with fail
  refine (HM.out _).mono ?_
  rintro e w2 ⟨rfl, b2⟩
  go_wp2_with fail
  refine (HP.out _).mono ?_
  rintro e w3 ⟨rfl, b3⟩
  go_wp2_with fail
  go_ret2
  exact ⟨rfl, b1.trans ((b2.trans (b3.mono b2.size)).mono b1.size)⟩
/-- Neither an h nor an m: the text 0s. -/
theorem pd_zero (s r : ByteArray) (h0 : (r.toList == [48]) = true)
    (hc : ∀ w : World, Calls Tryd.prog 38 #[.string s, .string ⟨#[115]⟩] w fun e w' => e = .returned (.tuple #[.string r, .bool true]) ∧ w = w')
    (hh : ∀ w : World, Calls Tryd.prog 39 #[.string r, .string ⟨#[104]⟩] w fun e w' => e = .returned (.tuple #[.string r, .string (str []), .bool false]) ∧ Below w.heap.size w w')
    (hm : ∀ w : World, Calls Tryd.prog 39 #[.string r, .string ⟨#[109]⟩] w fun e w' => e = .returned (.tuple #[.string r, .string (str []), .bool false]) ∧ Below w.heap.size w w') (w : World) :
    Calls Tryd.prog 24 #[.string s] w fun e w' => e = .returned (.tuple #[.int .i64 0, .int .i64 0]) ∧ Below w.heap.size w w' := by
  have HC := Lib.hid hc
  have HH := Lib.hid hh
  have HM := Lib.hid hm
  clear hc hh hm
  go_enter Tryd.func24, Tryd.ntmps24
  go_wp2_with fail
  refine (HC.out _).mono ?_
  rintro e w1 ⟨rfl, rfl⟩
  go_wp2_with fail
  refine (HH.out _).mono ?_
  rintro e w1 ⟨rfl, b1⟩
  go_wp2_with fail
  refine (HM.out _).mono ?_
  rintro e w2 ⟨rfl, b2⟩
  go_wp2_with fail
  go_ret2
  exact ⟨rfl, b1.trans (b2.mono b1.size)⟩
/-- Neither an h nor an m: another text. -/
theorem pd_s (s r : ByteArray) (h0 : (r.toList == [48]) = false) (v : Int) (ok : Bool)
    (hc : ∀ w : World, Calls Tryd.prog 38 #[.string s, .string ⟨#[115]⟩] w fun e w' => e = .returned (.tuple #[.string r, .bool true]) ∧ w = w')
    (hh : ∀ w : World, Calls Tryd.prog 39 #[.string r, .string ⟨#[104]⟩] w fun e w' => e = .returned (.tuple #[.string r, .string (str []), .bool false]) ∧ Below w.heap.size w w')
    (hm : ∀ w : World, Calls Tryd.prog 39 #[.string r, .string ⟨#[109]⟩] w fun e w' => e = .returned (.tuple #[.string r, .string (str []), .bool false]) ∧ Below w.heap.size w w')
    (hf : ∀ w : World, Calls Tryd.prog 42 #[.string r] w fun e w' => e = .returned (.tuple #[.int .i64 v, .bool ok]) ∧ Below w.heap.size w w') (w : World) :
    Calls Tryd.prog 24 #[.string s] w fun e w' => e = .returned (.tuple #[.int .i64 (bif ok then v else 0), .int .i64 (bif ok then 0 else 3)]) ∧ Below w.heap.size w w' := by
  have HC := Lib.hid hc
  have HH := Lib.hid hh
  have HM := Lib.hid hm
  have HF := Lib.hid hf
  clear hc hh hm hf
  cases ok
  all_goals
    simp only [cond_true, cond_false]
    go_enter Tryd.func24, Tryd.ntmps24
    go_wp2_with fail
    refine (HC.out _).mono ?_
    rintro e w1 ⟨rfl, rfl⟩
    go_wp2_with fail
    refine (HH.out _).mono ?_
    rintro e w1 ⟨rfl, b1⟩
    go_wp2_with fail
    refine (HM.out _).mono ?_
    rintro e w2 ⟨rfl, b2⟩
    go_wp2_with fail
    refine (HF.out _).mono ?_
    rintro e w3 ⟨rfl, b3⟩
    go_wp2_with fail
    go_ret2
    exact ⟨rfl, b1.trans ((b2.trans (b3.mono b2.size)).mono b1.size)⟩

theorem parseDur_any (l : List UInt8) (hl : l.length ≤ 9223372036854775807) (w : World) :
    Calls Tryd.prog 24 #[.string (str l)] w fun e w' => e = .returned (.tuple #[.int .i64 (durR l).1, .int .i64 (durR l).2]) ∧ Below w.heap.size w w' := by
  cases hs : List.isSuffixOf [115] l with
  | false =>
    have e : durR l = (0, 3) := by unfold durR; rw [hs]; rfl
    rw [e]
    exact pd_none l hs hl w
  | true =>
    obtain ⟨r, rfl, er⟩ := suffix_split l hs
    have e : durR (r ++ [115]) = restR r := by unfold durR; rw [if_pos hs, er]
    rw [e]
    have hr : r.length ≤ 9223372036854775807 := by simp at hl; omega
    have hc := suffix_hit 115 r hl
    by_cases hh : 104 ∈ r
    · obtain ⟨H, T, rfl, hn, e1, e2⟩ := split_at 104 r hh
      have e : restR (H ++ 104 :: T) = hoursR H T := by unfold restR; rw [if_pos hh, e1, e2]
      rw [e]
      exact pd_h _ _ _ _ _ _ hc (cut_hit 104 H T hn hr) (hours_any H T (by simp at hr; omega)) w
    · by_cases hm : 109 ∈ r
      · obtain ⟨M, S, rfl, hn, e1, e2⟩ := split_at 109 r hm
        have e : restR (M ++ 109 :: S) = minutesR M S := by unfold restR; rw [if_neg hh, if_pos hm, e1, e2]
        rw [e]
        exact pd_m _ _ _ _ _ _ hc (cut_miss 104 _ hh) (cut_hit 109 M S hn hr) (minutes_any M S) w
      · by_cases h0 : r = [48]
        · have e : restR r = (0, 0) := by unfold restR; rw [if_neg hh, if_neg hm, if_pos h0]
          rw [e]
          exact pd_zero _ _ (by rw [Lib.toList_data, h0]; rfl) hc (cut_miss 104 _ hh) (cut_miss 109 _ hm) w
        · obtain ⟨v, _, _, ve, cf⟩ := first_any r
          have e : restR r = (bif firstD r then v else 0, bif firstD r then 0 else 3) := by
            unfold restR
            rw [if_neg hh, if_neg hm, if_neg h0]
            cases hF : firstD r with
            | false => rfl
            | true => rw [ve hF]; rfl
          rw [e]
          exact pd_s _ _ (by
            rw [Lib.toList_data, beq_eq_false_iff_ne]
            exact h0) v (firstD r) hc (cut_miss 104 _ hh) (cut_miss 109 _ hm) cf w
end Go.Proofs.YtnojjmpcgbbofaaDoor
