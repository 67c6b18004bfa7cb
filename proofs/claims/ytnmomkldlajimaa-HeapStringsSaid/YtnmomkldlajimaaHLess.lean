/-
  The three orders of pairs and the two functions that are none: what each answers. Condition: keys are ints.
-/
import Derived.Test.YtnmomkldlajimaaRow
import Derived.Test.YtnmomkldlajimaaHeap
namespace Go.Proofs.Ytnmomkldlajimaa
open Go.RowKit

abbrev Pr := Int × Int
/-- A pair as a value. -/
def pv (p : Pr) : Value := .agg #[.int .i64 p.1, .int .i64 p.2]
/-- The absolute remainder modulo 3. -/
def rst (n : Int) : Int := if 0 ≤ n then n % 3 else (-n) % 3
theorem rst_bd (n : Int) : 0 ≤ rst n ∧ rst n ≤ 2 := by unfold rst; split <;> omega
def lUp (a b : Pr) : Bool := decide (a.1 < b.1)
def lDown (a b : Pr) : Bool := decide (b.1 < a.1)
def lRest (a b : Pr) : Bool := decide (rst a.1 < rst b.1)
def lAll (_ _ : Pr) : Bool := true
def lNot (a b : Pr) : Bool := decide (a.1 ≤ b.1)
theorem ord_of {α : Type} (f : α → Int) (less : α → α → Bool) (h : ∀ a b, less a b = decide (f a < f b)) : IsOrd less := by
  refine ⟨fun a b h1 => ?_, fun a b c h1 h2 => ?_⟩
  · rw [h] at *; simp at *; omega
  · rw [h] at *; simp at *; omega
theorem up_ord : IsOrd lUp := ord_of (fun a => a.1) _ fun _ _ => rfl
theorem down_ord : IsOrd lDown := ord_of (fun a => -a.1) _ fun a b => by unfold lDown; rw [Bool.eq_iff_iff]; simp
theorem rest_ord : IsOrd lRest := ord_of (fun a => rst a.1) _ fun _ _ => rfl

theorem tmod_neg (n : Int) (h : ¬ 0 ≤ n) : n.tmod 3 = -((-n) % 3) := by
  obtain ⟨m, rfl⟩ : ∃ m, n = -m := ⟨-n, by omega⟩
  rw [Int.neg_tmod, Int.tmod_eq_emod_of_nonneg (by omega), Int.neg_neg]
theorem rest_any (n : Int) (h0 : -9223372036854775808 ≤ n) (h1 : n ≤ 9223372036854775807) (w : World) : Calls Try.prog 37 #[.int .i64 n] w fun e w' => e = .returned (.int .i64 (rst n)) ∧ w = w' := by
  by_cases h : 0 ≤ n
  · have e : rst n = n % 3 := by unfold rst; rw [if_pos h]
    have E := Lib.hid e
    clear e
    go_enter Try.func37, Try.ntmps37
    go_wp2_with fail
    go_ret
    exact ⟨ret_int E.out.symm, rfl⟩
  · have e : rst n = wrap64 (-n.tmod 3) := by
      unfold rst
      rw [if_neg h, tmod_neg n h]
      unfold wrap64
      omega
    have E := Lib.hid e
    have F : Hid (n.tmod 3 ≤ 0 ∧ wrap64 (-n.tmod 3) = -n.tmod 3) := by
      rw [tmod_neg n h]
      unfold wrap64
      refine ⟨?_, ?_⟩ <;> omega
    clear e
    go_enter Try.func37, Try.ntmps37
    go_wp2_with fail
    all_goals
      go_ret
      exact ⟨ret_int (by have := F.out; have := E.out; omega), rfl⟩
theorem less_up (a b : Pr) (w : World) : Calls Try.prog 23 #[.int .i64 0, .agg #[.int .i64 a.1, .int .i64 a.2], .agg #[.int .i64 b.1, .int .i64 b.2]] w fun e w' => e = .returned (.bool (lUp a b)) ∧ Below w.heap.size w w' := by
  go_enter Try.func23, Try.ntmps23
  go_wp2_with fail
  go_ret
  exact ⟨rfl, ((Below.refl _ _).alloc (Nat.le_refl _) _).alloc (by simp) _⟩
theorem less_down (a b : Pr) (w : World) : Calls Try.prog 23 #[.int .i64 1, .agg #[.int .i64 a.1, .int .i64 a.2], .agg #[.int .i64 b.1, .int .i64 b.2]] w fun e w' => e = .returned (.bool (lDown a b)) ∧ Below w.heap.size w w' := by
  go_enter Try.func23, Try.ntmps23
  go_wp2_with fail
  go_ret
  exact ⟨rfl, ((Below.refl _ _).alloc (Nat.le_refl _) _).alloc (by simp) _⟩
/-- A pair of ints. -/
structure Ok2 (a : Pr) : Prop where
  lo : -9223372036854775808 ≤ a.1
  hi : a.1 ≤ 9223372036854775807
theorem less_rest (a b : Pr) (ha : Ok2 a) (hb : Ok2 b) (w : World) : Calls Try.prog 23 #[.int .i64 2, .agg #[.int .i64 a.1, .int .i64 a.2], .agg #[.int .i64 b.1, .int .i64 b.2]] w fun e w' => e = .returned (.bool (lRest a b)) ∧ Below w.heap.size w w' := by
  have C := fun W => rest_any a.1 ha.lo ha.hi W
  have D := fun W => rest_any b.1 hb.lo hb.hi W
  go_enter Try.func23, Try.ntmps23
  go_wp2_with fail
  go_quiet (first | (go_at_call 37; with_reducible exact Calls.quiet_of_same ((C _).mono fun _ _ ⟨h1, h2⟩ => ⟨h1, h2.symm⟩)) | (go_at_call 37; with_reducible exact Calls.quiet_of_same ((D _).mono fun _ _ ⟨h1, h2⟩ => ⟨h1, h2.symm⟩)))
  go_wp2_with fail
  go_ret
  exact ⟨rfl, below_drewN (((Below.refl _ _).alloc (Nat.le_refl _) _).alloc (by simp) _) nq⟩
theorem less_all (a b : Pr) (w : World) : Calls Try.prog 23 #[.int .i64 3, .agg #[.int .i64 a.1, .int .i64 a.2], .agg #[.int .i64 b.1, .int .i64 b.2]] w fun e w' => e = .returned (.bool (lAll a b)) ∧ Below w.heap.size w w' := by
  go_enter Try.func23, Try.ntmps23
  go_wp2_with fail
  go_ret
  exact ⟨rfl, ((Below.refl _ _).alloc (Nat.le_refl _) _).alloc (by simp) _⟩
theorem up_any (a b : Pr) (w : World) : Calls Try.prog 29 #[.agg #[.int .i64 a.1, .int .i64 a.2], .agg #[.int .i64 b.1, .int .i64 b.2]] w fun e w' => e = .returned (.bool (lUp a b)) ∧ Below w.heap.size w w' := by
  have C := fun W => less_up a b W
  go_enter Try.func29, Try.ntmps29
  go_wp2_with fail
  refine (C _).mono ?_
  rintro e w1 ⟨rfl, b1⟩
  go_wp2_with fail
  go_ret
  exact ⟨rfl, (((Below.refl _ _).alloc (Nat.le_refl _) _).alloc (by simp) _).trans (b1.mono (by simp; omega))⟩
theorem down_any (a b : Pr) (w : World) : Calls Try.prog 30 #[.agg #[.int .i64 a.1, .int .i64 a.2], .agg #[.int .i64 b.1, .int .i64 b.2]] w fun e w' => e = .returned (.bool (lDown a b)) ∧ Below w.heap.size w w' := by
  have C := fun W => less_down a b W
  go_enter Try.func30, Try.ntmps30
  go_wp2_with fail
  refine (C _).mono ?_
  rintro e w1 ⟨rfl, b1⟩
  go_wp2_with fail
  go_ret
  exact ⟨rfl, (((Below.refl _ _).alloc (Nat.le_refl _) _).alloc (by simp) _).trans (b1.mono (by simp; omega))⟩
theorem byRest_any (a b : Pr) (ha : Ok2 a) (hb : Ok2 b) (w : World) : Calls Try.prog 31 #[.agg #[.int .i64 a.1, .int .i64 a.2], .agg #[.int .i64 b.1, .int .i64 b.2]] w fun e w' => e = .returned (.bool (lRest a b)) ∧ Below w.heap.size w w' := by
  have C := fun W => less_rest a b ha hb W
  go_enter Try.func31, Try.ntmps31
  go_wp2_with fail
  refine (C _).mono ?_
  rintro e w1 ⟨rfl, b1⟩
  go_wp2_with fail
  go_ret
  exact ⟨rfl, (((Below.refl _ _).alloc (Nat.le_refl _) _).alloc (by simp) _).trans (b1.mono (by simp; omega))⟩
theorem always_any (a b : Pr) (w : World) : Calls Try.prog 32 #[.agg #[.int .i64 a.1, .int .i64 a.2], .agg #[.int .i64 b.1, .int .i64 b.2]] w fun e w' => e = .returned (.bool (lAll a b)) ∧ Below w.heap.size w w' := by
  go_enter Try.func32, Try.ntmps32
  go_wp2_with fail
  go_ret
  exact ⟨rfl, ((Below.refl _ _).alloc (Nat.le_refl _) _).alloc (by simp) _⟩
theorem notAbove_any (a b : Pr) (w : World) : Calls Try.prog 33 #[.agg #[.int .i64 a.1, .int .i64 a.2], .agg #[.int .i64 b.1, .int .i64 b.2]] w fun e w' => e = .returned (.bool (lNot a b)) ∧ Below w.heap.size w w' := by
  go_enter Try.func33, Try.ntmps33
  go_wp2_with fail
  go_ret
  exact ⟨rfl, ((Below.refl _ _).alloc (Nat.le_refl _) _).alloc (by simp) _⟩
end Go.Proofs.Ytnmomkldlajimaa
