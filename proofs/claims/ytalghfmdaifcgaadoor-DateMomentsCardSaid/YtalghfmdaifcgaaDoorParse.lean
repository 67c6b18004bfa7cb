/-
  Parse of package clock and of its reference: what each call answers; nothing that existed before the call has changed behind it. Condition: none beyond each theorem's own hypotheses.
-/
import Derived.Test.YtalghfmdaifcgaaDoorScan
import Derived.Test.YtalghfmdaifcgaaDoorRText
import Derived.Deep.RegionHeld3
namespace Go.Proofs.YtalghfmdaifcgaaDoor
open Go.RowKit


theorem form_digs (s : ByteArray) (hf : timeForm s.data.toList = true) (a : Nat) (ha : a = 0 ∨ a = 3 ∨ a = 6) : digs ((s.data.toList.drop a).take 2) = true := by
  obtain ⟨h8, h⟩ := form_at _ hf
  unfold digs
  rw [List.all_eq_true]
  intro x hx
  obtain ⟨i, hi⟩ := List.mem_iff_getElem?.1 hx
  have hi2 : i < 2 := by
    have := (List.getElem?_eq_some_iff.1 hi).1
    simp at this
    omega
  rw [List.getElem?_take_of_lt hi2, List.getElem?_drop] at hi
  exact (dig_iff _).2 ((okAt_digit _ _ (by omega)).1 (h _ _ hi))

theorem value_at (s : ByteArray) (a : Nat) (b : Nat) (hb : b = a + 2) (hd : digs ((s.data.toList.drop a).take 2) = true) (hs : a + 2 ≤ s.size) (w : World) :
    Calls Tryd.prog 62 #[.string (s.extract a b)] w fun e w' => e = .returned (.int .i64 (pairN s.data.toList a)) ∧ Below w.heap.size w w' := by
  subst hb
  have he : (s.extract a (a + 2)).data.toList = (s.data.toList.drop a).take 2 := by rw [Lib.extract_data]; congr 1; omega
  have h := value_any (s.extract a (a + 2)) (by rw [he]; exact hd) (by simp; omega) w
  rw [he] at h
  exact h

theorem value_form (s : ByteArray) (hf : timeForm s.data.toList = true) (a b : Nat) (hb : b = a + 2) (ha : a = 0 ∨ a = 3 ∨ a = 6) (w : World) :
    Calls Tryd.prog 62 #[.string (s.extract a b)] w fun e w' => e = .returned (.int .i64 (pairN s.data.toList a)) ∧ Below w.heap.size w w' :=
  value_at s a b hb (form_digs s hf a ha) (by have : s.size = 8 := (form_at _ hf).1; omega) w

theorem parse_yes (s : ByteArray) (hf : timeForm s.data.toList = true) (hp : Parts (pairN s.data.toList 0) (pairN s.data.toList 3) (pairN s.data.toList 6)) (w : World) :
    Calls Tryd.prog 54 #[.string s] w fun e w' => e = .returned (.tuple #[.int .i64 ((pairN s.data.toList 0 : Int) * 3600 + (pairN s.data.toList 3 : Int) * 60 + (pairN s.data.toList 6 : Int)), .int .i64 0]) ∧ Below w.heap.size w w' := by
  have h8 : s.size = 8 := (form_at _ hf).1
  have HF := Lib.hid hf
  have HP := Lib.hid hp
  clear hf hp
  have g2 : 2 ≤ s.size := by omega
  have g5 : 5 ≤ s.size := by omega
  have g8 : 8 ≤ s.size := by omega
  have i2 : (2 : Int) ≤ (s.size : Int) := by omega
  have i5 : (5 : Int) ≤ (s.size : Int) := by omega
  have i8 : (8 : Int) ≤ (s.size : Int) := by omega
  clear h8
  go_enter Tryd.func54, Tryd.ntmps54
  go_wp2_with fail
  refine (hasForm_yes s HF.out _).mono ?_
  rintro e w1 ⟨rfl, b1⟩
  go_wp2_with fail
  go_region_held3 (fun _ => True) (exact trivial) (first | (go_at_call 62; refine (rel (W := w) (value_form s HF.out _ _ (by omega) (by omega) _) (by first | assumption | (apply Below.drew; assumption))).mono ?_; rintro e wa ⟨rfl, ba⟩) | (go_at_call 61; refine (join_yes _ _ _ HP.out _).mono ?_; rintro e wd ⟨rfl, rfl⟩))
  go_wp2_with fail
  go_ret2
  exact ⟨rfl, by assumption⟩
theorem parse_time (s : ByteArray) (hf : timeForm s.data.toList = true) (hp : ¬ Parts (pairN s.data.toList 0) (pairN s.data.toList 3) (pairN s.data.toList 6)) (w : World) :
    Calls Tryd.prog 54 #[.string s] w fun e w' => e = .returned (.tuple #[.int .i64 0, .int .i64 10]) ∧ Below w.heap.size w w' := by
  have h8 : s.size = 8 := (form_at _ hf).1
  have HF := Lib.hid hf
  have HP := Lib.hid hp
  clear hf hp
  have g2 : 2 ≤ s.size := by omega
  have g5 : 5 ≤ s.size := by omega
  have g8 : 8 ≤ s.size := by omega
  have i2 : (2 : Int) ≤ (s.size : Int) := by omega
  have i5 : (5 : Int) ≤ (s.size : Int) := by omega
  have i8 : (8 : Int) ≤ (s.size : Int) := by omega
  clear h8
  go_enter Tryd.func54, Tryd.ntmps54
  go_wp2_with fail
  refine (hasForm_yes s HF.out _).mono ?_
  rintro e w1 ⟨rfl, b1⟩
  go_wp2_with fail
  go_region_held3 (fun _ => True) (exact trivial) (first | (go_at_call 62; refine (rel (W := w) (value_form s HF.out _ _ (by omega) (by omega) _) (by first | assumption | (apply Below.drew; assumption))).mono ?_; rintro e wa ⟨rfl, ba⟩) | (go_at_call 61; refine (join_no _ _ _ HP.out _).mono ?_; rintro e wd ⟨rfl, rfl⟩))
  go_wp2_with fail
  go_ret2
  exact ⟨rfl, by assumption⟩
theorem parse_syntax (s : ByteArray) (hf : timeForm s.data.toList = false) (w : World) :
    Calls Tryd.prog 54 #[.string s] w fun e w' => e = .returned (.tuple #[.int .i64 0, .int .i64 3]) ∧ Below w.heap.size w w' := by
  have HF := Lib.hid hf
  clear hf
  go_enter Tryd.func54, Tryd.ntmps54
  go_wp2_with fail
  refine (hasForm_no s HF.out _).mono ?_
  rintro e w1 ⟨rfl, b1⟩
  go_wp2_with fail
  go_ret2
  exact ⟨rfl, b1⟩

end Go.Proofs.YtalghfmdaifcgaaDoor
