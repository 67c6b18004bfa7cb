/-
  Parse and ParseMoment of package date and of its reference: what each call answers; nothing that existed before the call has changed behind it. Condition: the table of the months' lengths holds what its initialiser lays, where a theorem names it.
-/
import Derived.Test.YtalghfmdaifcgaaDoorDShape
namespace Go.Proofs.YtalghfmdaifcgaaDoor
open Go.RowKit

/-- The number that stands from place a on in a day's text. -/
def vAt (l : List UInt8) (a : Nat) : Nat := if a = 0 then val4 l else pairN l a
theorem form_digsD (s : ByteArray) (hf : fits dayP s.data.toList = true) (a n : Nat) (ha : ∀ i, i < n → ¬ (a + i = 4 ∨ a + i = 7)) : digs ((s.data.toList.drop a).take n) = true := by
  obtain ⟨-, h⟩ := (fitsD_iff _).1 hf
  unfold digs
  rw [List.all_eq_true]
  intro x hx
  obtain ⟨i, hi⟩ := List.mem_iff_getElem?.1 hx
  have hi2 : i < n := by
    have := (List.getElem?_eq_some_iff.1 hi).1
    simp at this
    omega
  rw [List.getElem?_take_of_lt hi2, List.getElem?_drop] at hi
  exact (dig_iff _).2 ((okD_digit _ _ (ha i hi2)).1 (h _ _ hi))
theorem dval_at (s : ByteArray) (a b n : Nat) (hb : b = a + n) (hn : n ≤ 4) (hd : digs ((s.data.toList.drop a).take n) = true) (w : World) :
    Calls Tryd.prog 47 #[.string (s.extract a b)] w fun e w' => e = .returned (.int .i64 (valN ((s.data.toList.drop a).take n))) ∧ w = w' := by
  subst hb
  have he : (s.extract a (a + n)).data.toList = (s.data.toList.drop a).take n := by rw [Lib.extract_data]; congr 1; omega
  have h := dvalue_any (s.extract a (a + n)) (by rw [he]; exact hd) (by simp; omega) w
  rw [he] at h
  exact h
theorem rdval_at (s : ByteArray) (a b n : Nat) (hb : b = a + n) (hn : n ≤ 4) (hd : digs ((s.data.toList.drop a).take n) = true) (w : World) :
    Calls Tryd.prog 49 #[.string (s.extract a b)] w fun e w' => e = .returned (.int .i64 (valN ((s.data.toList.drop a).take n))) ∧ w = w' := by
  subst hb
  have he : (s.extract a (a + n)).data.toList = (s.data.toList.drop a).take n := by rw [Lib.extract_data]; congr 1; omega
  have h := rdvalue_any (s.extract a (a + n)) (by rw [he]; exact hd) (by simp; omega) w
  rw [he] at h
  exact h
theorem dval_form (s : ByteArray) (hf : fits dayP s.data.toList = true) (a b : Nat) (h : (a = 0 ∧ b = 4) ∨ (a = 5 ∧ b = 7) ∨ (a = 8 ∧ b = 10)) (w : World) :
    Calls Tryd.prog 47 #[.string (s.extract a b)] w fun e w' => e = .returned (.int .i64 (vAt s.data.toList a)) ∧ w = w' := by
  rcases h with ⟨rfl, rfl⟩ | ⟨rfl, rfl⟩ | ⟨rfl, rfl⟩
  · exact dval_at s 0 4 4 rfl (by decide) (form_digsD s hf 0 4 (by omega)) w
  · exact dval_at s 5 7 2 rfl (by decide) (form_digsD s hf 5 2 (by omega)) w
  · exact dval_at s 8 10 2 rfl (by decide) (form_digsD s hf 8 2 (by omega)) w
theorem rdval_form (s : ByteArray) (hf : fits dayP s.data.toList = true) (a b : Nat) (h : (a = 0 ∧ b = 4) ∨ (a = 5 ∧ b = 7) ∨ (a = 8 ∧ (b = 10 ∨ b = s.size))) (w : World) :
    Calls Tryd.prog 49 #[.string (s.extract a b)] w fun e w' => e = .returned (.int .i64 (vAt s.data.toList a)) ∧ w = w' := by
  have h10 : s.size = 10 := ((fitsD_iff _).1 hf).1
  rcases h with ⟨rfl, rfl⟩ | ⟨rfl, rfl⟩ | ⟨rfl, h⟩
  · exact rdval_at s 0 4 4 rfl (by decide) (form_digsD s hf 0 4 (by omega)) w
  · exact rdval_at s 5 7 2 rfl (by decide) (form_digsD s hf 5 2 (by omega)) w
  · exact rdval_at s 8 b 2 (by omega) (by decide) (form_digsD s hf 8 2 (by omega)) w

theorem dparse_yes (s : ByteArray) (hf : fits dayP s.data.toList = true) (hp : IsDate (vAt s.data.toList 0) (vAt s.data.toList 5) (vAt s.data.toList 8)) (w : World) (hg : Good w) :
    Calls Tryd.prog 29 #[.string s] w fun e w' => e = .returned (.tuple #[.int .i64 (dayOf (vAt s.data.toList 0) (vAt s.data.toList 5) (vAt s.data.toList 8)), .int .i64 0]) ∧ Below w.heap.size w w' := by
  have h10 : s.size = 10 := ((fitsD_iff _).1 hf).1
  have HD := Lib.hid (fun w => hasDay_any s w)
  rw [hf] at HD
  have HF := Lib.hid hf
  have HP := Lib.hid hp
  clear hf hp
  have i4 : (4 : Int) ≤ (s.size : Int) := by omega
  have i7 : (7 : Int) ≤ (s.size : Int) := by omega
  have i10 : (10 : Int) ≤ (s.size : Int) := by omega
  have b0 := Below.refl w.heap.size w
  clear h10
  go_enter Tryd.func29, Tryd.ntmps29
  go_wp2_with fail
  refine (HD.out _).mono ?_
  rintro e w1 ⟨rfl, rfl⟩
  go_wp2_with fail
  go_region_held3 (fun _ => True) (exact trivial) (first | (go_at_call 47; refine (rel (W := w) (still (dval_form s HF.out _ _ (by omega) _)) (by first | assumption | (apply Below.drew; assumption))).mono ?_; rintro e wa ⟨rfl, ba⟩) | (go_at_call 21; refine (rel (W := w) (still (fromCivil_yes _ _ _ HP.out _ (hg.below (by first | assumption | (apply Below.drew; assumption))))) (by first | assumption | (apply Below.drew; assumption))).mono ?_; rintro e wd ⟨rfl, bd⟩))
  go_wp2_with fail
  go_ret2
  exact ⟨rfl, by assumption⟩
theorem dparse_date (s : ByteArray) (hf : fits dayP s.data.toList = true) (hp : ¬ IsDate (vAt s.data.toList 0) (vAt s.data.toList 5) (vAt s.data.toList 8)) (w : World) (hg : Good w) :
    Calls Tryd.prog 29 #[.string s] w fun e w' => e = .returned (.tuple #[.int .i64 0, .int .i64 11]) ∧ Below w.heap.size w w' := by
  have h10 : s.size = 10 := ((fitsD_iff _).1 hf).1
  have HD := Lib.hid (fun w => hasDay_any s w)
  rw [hf] at HD
  have HF := Lib.hid hf
  have HP := Lib.hid hp
  clear hf hp
  have i4 : (4 : Int) ≤ (s.size : Int) := by omega
  have i7 : (7 : Int) ≤ (s.size : Int) := by omega
  have i10 : (10 : Int) ≤ (s.size : Int) := by omega
  have b0 := Below.refl w.heap.size w
  clear h10
  go_enter Tryd.func29, Tryd.ntmps29
  go_wp2_with fail
  refine (HD.out _).mono ?_
  rintro e w1 ⟨rfl, rfl⟩
  go_wp2_with fail
  go_region_held3 (fun _ => True) (exact trivial) (first | (go_at_call 47; refine (rel (W := w) (still (dval_form s HF.out _ _ (by omega) _)) (by first | assumption | (apply Below.drew; assumption))).mono ?_; rintro e wa ⟨rfl, ba⟩) | (go_at_call 21; refine (rel (W := w) (still (fromCivil_no _ _ _ HP.out _ (hg.below (by first | assumption | (apply Below.drew; assumption))))) (by first | assumption | (apply Below.drew; assumption))).mono ?_; rintro e wd ⟨rfl, bd⟩))
  go_wp2_with fail
  go_ret2
  exact ⟨rfl, by assumption⟩
theorem dparse_syntax (s : ByteArray) (hf : fits dayP s.data.toList = false) (w : World) :
    Calls Tryd.prog 29 #[.string s] w fun e w' => e = .returned (.tuple #[.int .i64 0, .int .i64 3]) ∧ w = w' := by
  have HD := Lib.hid (hasDay_any s w)
  rw [hf] at HD
  clear hf
  go_enter Tryd.func29, Tryd.ntmps29
  go_wp2_with fail
  refine HD.out.mono ?_
  rintro e w1 ⟨rfl, rfl⟩
  go_wp2_with fail
  go_ret2
  exact ⟨rfl, rfl⟩
theorem dparse_any (s : ByteArray) (w : World) (hg : Good w) :
    Calls Tryd.prog 29 #[.string s] w fun e w' => e = .returned (.tuple #[.int .i64 (dayR s.data.toList).1, .int .i64 (dayR s.data.toList).2]) ∧ Below w.heap.size w w' := by
  cases hf : fits dayP s.data.toList with
  | false => rw [dayR_syntax _ hf]; exact still (dparse_syntax s hf w)
  | true =>
    by_cases hp : IsDate (val4 s.data.toList) (pairN s.data.toList 5) (pairN s.data.toList 8)
    · rw [dayR_yes _ hf hp]; exact dparse_yes s hf hp w hg
    · rw [dayR_date _ hf hp]; exact dparse_date s hf hp w hg

theorem rdparse_yes (s : ByteArray) (hf : fits dayP s.data.toList = true) (hp : IsDate (vAt s.data.toList 0) (vAt s.data.toList 5) (vAt s.data.toList 8)) (w : World) :
    Calls Tryd.prog 30 #[.string s] w fun e w' => e = .returned (.tuple #[.int .i64 (dayOf (vAt s.data.toList 0) (vAt s.data.toList 5) (vAt s.data.toList 8)), .int .i64 0]) ∧ Below w.heap.size w w' := by
  have h10 : s.size = 10 := ((fitsD_iff _).1 hf).1
  have HD := Lib.hid (fun w => shaped_any s ⟨#[48, 48, 48, 48, 45, 48, 48, 45, 48, 48]⟩ (by decide) w)
  rw [show fits (⟨#[48, 48, 48, 48, 45, 48, 48, 45, 48, 48]⟩ : ByteArray).data.toList s.data.toList = true from hf] at HD
  have HF := Lib.hid hf
  have HP := Lib.hid hp
  clear hf hp
  have i4 : (4 : Int) ≤ (s.size : Int) := by omega
  have i7 : (7 : Int) ≤ (s.size : Int) := by omega
  have i8 : (8 : Int) ≤ (s.size : Int) := by omega
  clear h10
  go_enter Tryd.func30, Tryd.ntmps30
  go_wp2_with fail
  refine (HD.out _).mono ?_
  rintro e w1 ⟨rfl, b1⟩
  go_wp2_with fail
  go_region_held3 (fun _ => True) (exact trivial) (first | (go_at_call 49; refine (rel (W := w) (still (rdval_form s HF.out _ _ (by omega) _)) (by first | assumption | (apply Below.drew; assumption))).mono ?_; rintro e wa ⟨rfl, ba⟩) | (go_at_call 22; refine (rel (W := w) (still (rfromCivil_yes _ _ _ HP.out _)) (by first | assumption | (apply Below.drew; assumption))).mono ?_; rintro e wd ⟨rfl, bd⟩))
  go_wp2_with fail
  go_ret2
  exact ⟨rfl, by assumption⟩
theorem rdparse_date (s : ByteArray) (hf : fits dayP s.data.toList = true) (hp : ¬ IsDate (vAt s.data.toList 0) (vAt s.data.toList 5) (vAt s.data.toList 8)) (w : World) :
    Calls Tryd.prog 30 #[.string s] w fun e w' => e = .returned (.tuple #[.int .i64 0, .int .i64 11]) ∧ Below w.heap.size w w' := by
  have h10 : s.size = 10 := ((fitsD_iff _).1 hf).1
  have HD := Lib.hid (fun w => shaped_any s ⟨#[48, 48, 48, 48, 45, 48, 48, 45, 48, 48]⟩ (by decide) w)
  rw [show fits (⟨#[48, 48, 48, 48, 45, 48, 48, 45, 48, 48]⟩ : ByteArray).data.toList s.data.toList = true from hf] at HD
  have HF := Lib.hid hf
  have HP := Lib.hid hp
  clear hf hp
  have i4 : (4 : Int) ≤ (s.size : Int) := by omega
  have i7 : (7 : Int) ≤ (s.size : Int) := by omega
  have i8 : (8 : Int) ≤ (s.size : Int) := by omega
  clear h10
  go_enter Tryd.func30, Tryd.ntmps30
  go_wp2_with fail
  refine (HD.out _).mono ?_
  rintro e w1 ⟨rfl, b1⟩
  go_wp2_with fail
  go_region_held3 (fun _ => True) (exact trivial) (first | (go_at_call 49; refine (rel (W := w) (still (rdval_form s HF.out _ _ (by omega) _)) (by first | assumption | (apply Below.drew; assumption))).mono ?_; rintro e wa ⟨rfl, ba⟩) | (go_at_call 22; refine (rel (W := w) (still (rfromCivil_no _ _ _ HP.out _)) (by first | assumption | (apply Below.drew; assumption))).mono ?_; rintro e wd ⟨rfl, bd⟩))
  go_wp2_with fail
  go_ret2
  exact ⟨rfl, by assumption⟩
theorem rdparse_syntax (s : ByteArray) (hf : fits dayP s.data.toList = false) (w : World) :
    Calls Tryd.prog 30 #[.string s] w fun e w' => e = .returned (.tuple #[.int .i64 0, .int .i64 3]) ∧ Below w.heap.size w w' := by
  have HD := Lib.hid (shaped_any s ⟨#[48, 48, 48, 48, 45, 48, 48, 45, 48, 48]⟩ (by decide) w)
  rw [show fits (⟨#[48, 48, 48, 48, 45, 48, 48, 45, 48, 48]⟩ : ByteArray).data.toList s.data.toList = false from hf] at HD
  clear hf
  go_enter Tryd.func30, Tryd.ntmps30
  go_wp2_with fail
  refine HD.out.mono ?_
  rintro e w1 ⟨rfl, b1⟩
  go_wp2_with fail
  go_ret2
  exact ⟨rfl, b1⟩
theorem rdparse_any (s : ByteArray) (w : World) :
    Calls Tryd.prog 30 #[.string s] w fun e w' => e = .returned (.tuple #[.int .i64 (dayR s.data.toList).1, .int .i64 (dayR s.data.toList).2]) ∧ Below w.heap.size w w' := by
  cases hf : fits dayP s.data.toList with
  | false => rw [dayR_syntax _ hf]; exact rdparse_syntax s hf w
  | true =>
    by_cases hp : IsDate (val4 s.data.toList) (pairN s.data.toList 5) (pairN s.data.toList 8)
    · rw [dayR_yes _ hf hp]; exact rdparse_yes s hf hp w
    · rw [dayR_date _ hf hp]; exact rdparse_date s hf hp w
end Go.Proofs.YtalghfmdaifcgaaDoor
