/-
  The functions of package clock and of its reference that compute with numbers alone: what each call answers; it leaves the world as it was. Condition: none beyond each theorem's own hypotheses.
-/
import Derived.Test.YtalghfmdaifcgaaDoorRows
import Derived.Test.YtalghfmdaifcgaaDoorTimes
import Derived.WalkKit
import Derived.WalkSpells
import Derived.WalkLawsBesides
namespace Go.Proofs.YtalghfmdaifcgaaDoor
open Go.RowKit

/-- A contract told of an earlier world. -/
theorem rel {P : Program} {f : FuncId} {args : Array Value} {w W : World} {x : Ending} (h : Calls P f args w fun e w' => e = x ∧ Below w.heap.size w w') (hb : Below W.heap.size W w) :
    Calls P f args w fun e w' => e = x ∧ Below W.heap.size W w' :=
  h.mono fun _ _ ⟨he, hc⟩ => ⟨he, hb.trans (hc.mono hb.size)⟩
theorem below_drewN {B : Nat} {a w : World} (h : Below B a w) (n : Nat) : Below B a (w.drewN n) := ⟨h.os, h.tape, h.output, h.size, h.block⟩
/-- A contract that leaves the world alone, told so. -/
theorem still {P : Program} {f : FuncId} {args : Array Value} {w : World} {x : Ending} (h : Calls P f args w fun e w' => e = x ∧ w = w') :
    Calls P f args w fun e w' => e = x ∧ Below w.heap.size w w' :=
  h.mono fun _ _ ⟨he, hc⟩ => ⟨he, hc ▸ Below.refl _ _⟩

theorem valid_yes (t : Int) (h0 : 0 ≤ t) (h1 : t ≤ 172800) (w : World) :
    Calls Tryd.prog 50 #[.int .i64 t] w fun e w' => e = .returned (.bool true) ∧ w = w' := by
  go_enter Tryd.func50, Tryd.ntmps50
  go_wp2
  go_ret
  exact ⟨rfl, rfl⟩
theorem valid_no (t : Int) (h : t < 0 ∨ 172800 < t) (w : World) :
    Calls Tryd.prog 50 #[.int .i64 t] w fun e w' => e = .returned (.bool false) ∧ w = w' := by
  rcases h with h | h
  · go_enter Tryd.func50, Tryd.ntmps50
    go_wp2
    go_ret
    exact ⟨rfl, rfl⟩
  · have h0 : 0 ≤ t := by omega
    have hd : decide (t ≤ 172800) = false := by simp; omega
    go_enter Tryd.func50, Tryd.ntmps50
    go_wp2
    go_ret
    exact ⟨rfl, rfl⟩
theorem rvalid_yes (t : Int) (h0 : 0 ≤ t) (h1 : t ≤ 172800) (w : World) :
    Calls Tryd.prog 51 #[.int .i64 t] w fun e w' => e = .returned (.bool true) ∧ w = w' := by
  go_enter Tryd.func51, Tryd.ntmps51
  go_wp2
  go_ret
  exact ⟨rfl, rfl⟩
theorem rvalid_no (t : Int) (h : t < 0 ∨ 172800 < t) (w : World) :
    Calls Tryd.prog 51 #[.int .i64 t] w fun e w' => e = .returned (.bool false) ∧ w = w' := by
  rcases h with h | h
  · go_enter Tryd.func51, Tryd.ntmps51
    go_wp2
    go_ret
    exact ⟨rfl, rfl⟩
  · have h0 : 0 ≤ t := by omega
    have hd : decide (t ≤ 172800) = false := by simp; omega
    go_enter Tryd.func51, Tryd.ntmps51
    go_wp2
    go_ret
    exact ⟨rfl, rfl⟩

theorem divide_any (t : Int) (h0 : 0 ≤ t) (h1 : t ≤ 359999) (w : World) :
    Calls Tryd.prog 64 #[.int .i64 t] w fun e w' => e = .returned (.tuple #[.int .i64 (t / 3600), .int .i64 (t % 3600 / 60), .int .i64 (t % 60)]) ∧ w = w' := by
  go_enter Tryd.func64, Tryd.ntmps64
  go_wp2
  go_ret3
  exact ⟨rfl, rfl⟩
theorem combine_any (h m s : Int) (h0 : 0 ≤ h) (h1 : h ≤ 99) (m0 : 0 ≤ m) (m1 : m ≤ 99) (s0 : 0 ≤ s) (s1 : s ≤ 99) (w : World) :
    Calls Tryd.prog 68 #[.int .i64 h, .int .i64 m, .int .i64 s] w fun e w' => e = .returned (.int .i64 (h * 3600 + m * 60 + s)) ∧ w = w' := by
  go_enter Tryd.func68, Tryd.ntmps68
  go_wp2
  go_ret
  exact ⟨rfl, rfl⟩
theorem sixtieth_yes (n : Int) (h0 : 0 ≤ n) (h1 : n < 60) (w : World) :
    Calls Tryd.prog 67 #[.int .i64 n] w fun e w' => e = .returned (.bool true) ∧ w = w' := by
  go_enter Tryd.func67, Tryd.ntmps67
  go_wp2
  go_ret
  exact ⟨rfl, rfl⟩
theorem sixtieth_no (n : Int) (h : n < 0 ∨ 60 ≤ n) (w : World) :
    Calls Tryd.prog 67 #[.int .i64 n] w fun e w' => e = .returned (.bool false) ∧ w = w' := by
  rcases h with h | h
  · go_enter Tryd.func67, Tryd.ntmps67
    go_wp2
    go_ret
    exact ⟨rfl, rfl⟩
  · have h0 : 0 ≤ n := by omega
    have hd : decide (n < 60) = false := by simp; omega
    go_enter Tryd.func67, Tryd.ntmps67
    go_wp2
    go_ret
    exact ⟨rfl, rfl⟩

theorem results_tmp4 {fn : Func} {t u v x : Tmp} (h : fn.results = #[.tmp t, .tmp u, .tmp v, .tmp x]) (tmps : Array Value) (P : Program) (w : World) :
    (results fn tmps).run P w = .ok (.tuple #[tmps.getD t undef, tmps.getD u undef, tmps.getD v undef, tmps.getD x undef]) w := by simp [results, h]

theorem split_yes (t : Int) (h0 : 0 ≤ t) (h1 : t ≤ 172800) (w : World) :
    Calls Tryd.prog 56 #[.int .i64 t] w fun e w' => e = .returned (.tuple #[.int .i64 (t / 3600), .int .i64 (t % 3600 / 60), .int .i64 (t % 60), .bool true]) ∧ w = w' := by
  go_enter Tryd.func56, Tryd.ntmps56
  go_wp2_with (first | (go_at_call 50; refine (valid_yes _ (by omega) (by omega) _).mono ?_; rintro e w' ⟨rfl, rfl⟩) | (go_at_call 64; refine (divide_any _ (by omega) (by omega) _).mono ?_; rintro e w' ⟨rfl, rfl⟩))
  refine bodyPost_ret (results_tmp4 rfl _ _ _) rfl ?_
  exact ⟨rfl, rfl⟩
theorem split_no (t : Int) (h : t < 0 ∨ 172800 < t) (w : World) :
    Calls Tryd.prog 56 #[.int .i64 t] w fun e w' => e = .returned (.tuple #[.int .i64 0, .int .i64 0, .int .i64 0, .bool false]) ∧ w = w' := by
  go_enter Tryd.func56, Tryd.ntmps56
  go_wp2_with (go_at_call 50; refine (valid_no _ (by omega) _).mono ?_; rintro e w' ⟨rfl, rfl⟩)
  refine bodyPost_ret (results_tmp4 rfl _ _ _) rfl ?_
  exact ⟨rfl, rfl⟩


theorem join_yes (h m s : Int) (hp : Parts h m s) (w : World) :
    Calls Tryd.prog 61 #[.int .i64 h, .int .i64 m, .int .i64 s] w fun e w' => e = .returned (.tuple #[.int .i64 (h * 3600 + m * 60 + s), .bool true]) ∧ w = w' := by
  obtain ⟨h0, h1, m0, m1, s0, s1, ht⟩ := hp
  go_enter Tryd.func61, Tryd.ntmps61
  go_wp2_with (first | (go_at_call 67; refine (sixtieth_yes _ (by omega) (by omega) _).mono ?_; rintro e w' ⟨rfl, rfl⟩) | (go_at_call 68; refine (combine_any _ _ _ (by omega) (by omega) (by omega) (by omega) (by omega) (by omega) _).mono ?_; rintro e w' ⟨rfl, rfl⟩) | (go_at_call 50; refine (valid_yes _ (by omega) (by omega) _).mono ?_; rintro e w' ⟨rfl, rfl⟩))
  go_ret2
  exact ⟨rfl, rfl⟩

theorem join_no (h m s : Int) (hp : ¬ Parts h m s) (w : World) :
    Calls Tryd.prog 61 #[.int .i64 h, .int .i64 m, .int .i64 s] w fun e w' => e = .returned (.tuple #[.int .i64 0, .bool false]) ∧ w = w' := by
  unfold Parts at hp
  by_cases h0 : h < 0
  · go_enter Tryd.func61, Tryd.ntmps61
    go_wp2_with fail
    go_ret2
    exact ⟨rfl, rfl⟩
  by_cases h1 : 48 < h
  · go_enter Tryd.func61, Tryd.ntmps61
    go_wp2_with fail
    go_ret2
    exact ⟨rfl, rfl⟩
  by_cases hm : m < 0 ∨ 60 ≤ m
  · go_enter Tryd.func61, Tryd.ntmps61
    go_wp2_with (go_at_call 67; refine (sixtieth_no _ (by omega) _).mono ?_; rintro e w' ⟨rfl, rfl⟩)
    go_ret2
    exact ⟨rfl, rfl⟩
  by_cases hs : s < 0 ∨ 60 ≤ s
  · go_enter Tryd.func61, Tryd.ntmps61
    go_wp2_with (first | (go_at_call 67; refine (sixtieth_yes _ (by omega) (by omega) _).mono ?_; rintro e w' ⟨rfl, rfl⟩) | (go_at_call 67; refine (sixtieth_no _ (by omega) _).mono ?_; rintro e w' ⟨rfl, rfl⟩))
    go_ret2
    exact ⟨rfl, rfl⟩
  · go_enter Tryd.func61, Tryd.ntmps61
    go_wp2_with (first | (go_at_call 67; refine (sixtieth_yes _ (by omega) (by omega) _).mono ?_; rintro e w' ⟨rfl, rfl⟩) | (go_at_call 68; refine (combine_any _ _ _ (by omega) (by omega) (by omega) (by omega) (by omega) (by omega) _).mono ?_; rintro e w' ⟨rfl, rfl⟩) | (go_at_call 50; refine (valid_no _ (by omega) _).mono ?_; rintro e w' ⟨rfl, rfl⟩))
    go_ret2
    exact ⟨rfl, rfl⟩

end Go.Proofs.YtalghfmdaifcgaaDoor
