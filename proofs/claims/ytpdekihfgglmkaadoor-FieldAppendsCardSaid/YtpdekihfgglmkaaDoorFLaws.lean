/-
  The example of package field's statements, and the nine statements: each call returns true; nothing that existed before the call has changed behind it. Condition: strings and lists that fit into memory.
-/
import Derived.Test.YtpdekihfgglmkaaDoorFText
namespace Go.Proofs.YtpdekihfgglmkaaDoor
open Go.RowKit

theorem lst_new (w : World) (cells : Array Value) (ls : List (List UInt8)) (hc : cells.toList = sts ls) (n : Nat) (hn : n = ls.length) : Lst (w.alloc (.cells cells 9)) (.slice (some ⟨w.heap.size, 0, none⟩) n n) ls := by
  subst hn
  refine ⟨_, _, rfl, Nat.le_refl _, fun _ => ⟨w.heap.size, 0, rfl, by simp, fun j x hj => ?_⟩⟩
  rw [Nat.zero_add, World.cell?_alloc_new, ← hj, ← hc]
  simp
theorem e_join : joinR [[65], [44]] = ([65, 44, 34, 44, 34], 0) := by decide +kernel
theorem e_split : splitR [97, 44] = ([], 3) := by decide +kernel
theorem e_lines : linesR [97, 10, 10] = ([[97], []], 0) := by decide +kernel
theorem e_cut : linesR [97] = ([], 4) := by decide +kernel
theorem e_q1 : quoteL [97, 32, 98] = [97, 32, 98] := by decide +kernel
theorem e_q2 : quoteL [] = [34, 34] := by decide +kernel
theorem e_q3 : quoteL [97, 10] = [34, 97, 92, 120, 48, 97, 34] := by decide +kernel
theorem nil_str (l : List UInt8) : (str l).data.toList = l := rfl
set_option maxHeartbeats 1000000 in
theorem example_holds (w : World) : Calls Tryd.prog 12 #[] w fun e w' => e = .returned (.bool true) ∧ Below w.heap.size w w' := by
  have A := Lib.hid (fun w => fjoin_any (.slice (some ⟨w.heap.size, 0, none⟩) 2 2) [[65], [44]] (by decide) (by decide) (w.alloc (.cells #[.string (str [65]), .string (str [44])] 9)) (lst_new w _ _ rfl 2 rfl))
  rw [e_join] at A
  have B := Lib.hid (fun w => fsplit_any (str [97, 44]) (by decide) w)
  rw [nil_str, e_split] at B
  have C := Lib.hid (fun w => flines_any (str [97, 10, 10]) (by decide) w)
  rw [nil_str, e_lines] at C
  have D := Lib.hid (fun w => flines_any (str [97]) (by decide) w)
  rw [nil_str, e_cut] at D
  have Q1 := Lib.hid (fun w => fquote_any (str [97, 32, 98]) (by decide) w)
  rw [nil_str, e_q1] at Q1
  have Q2 := Lib.hid (fun w => fquote_any (str []) (by decide) w)
  rw [nil_str, e_q2] at Q2
  have Q3 := Lib.hid (fun w => fquote_any (str [97, 10]) (by decide) w)
  rw [nil_str, e_q3] at Q3
  go_enter Tryd.func12, Tryd.ntmps12
  go_wp2_with fail
  refine (A.out w).mono ?_
  rintro e w1 ⟨rfl, b1'⟩
  have b1 := ((Below.refl w.heap.size w).alloc (Nat.le_refl _) (.cells #[.string (str [65]), .string (str [44])] 9)).trans (b1'.mono (by simp))
  clear b1'
  go_wp2_with fail
  refine (B.out _).mono ?_
  rintro e w2 ⟨v2, rfl, o2, b2'⟩
  have b2 := b1.trans (b2'.mono b1.size)
  clear b1 b2' o2
  go_wp2_with fail
  refine (C.out _).mono ?_
  rintro e w3 ⟨v3, rfl, o3, b3'⟩
  have O3 := Lib.hid o3.lst
  have b3 := b2.trans (b3'.mono b2.size)
  clear b2 b3' o3
  go_wp2_with fail
  refine (D.out _).mono ?_
  rintro e w4 ⟨v4, rfl, o4, b4'⟩
  have O4 := Lib.hid (O3.out.below b4')
  have b4 := b3.trans (b4'.mono b3.size)
  clear b3 b4' o4 O3
  go_wp2_with fail
  refine (Q1.out _).mono ?_
  rintro e w5 ⟨rfl, b5'⟩
  have O5 := Lib.hid (O4.out.below b5')
  have b5 := b4.trans (b5'.mono b4.size)
  clear b4 b5' O4
  go_wp2_with fail
  refine (Q2.out _).mono ?_
  rintro e w6 ⟨rfl, b6'⟩
  have O6 := Lib.hid (O5.out.below b6')
  have b6 := b5.trans (b6'.mono b5.size)
  clear b5 b6' O5
  go_wp2_with fail
  refine (Q3.out _).mono ?_
  rintro e w7 ⟨rfl, b7'⟩
  have O7 := Lib.hid (O6.out.below b7')
  have b7 := b6.trans (b7'.mono b6.size)
  clear b6 b7' O6
  have S := Lib.hid (same_any v3 (.slice (some ⟨w7.heap.size, 0, none⟩) 2 2) [[97], []] [[97], []] (by decide) (w7.alloc (.cells #[.string (str [97]), .string (str [])] 9)) (O7.out.below ((Below.refl _ _).alloc (Nat.le_refl _) _)) (lst_new w7 _ _ rfl 2 rfl))
  rw [decide_eq_true rfl] at S
  go_wp2_with fail
  refine (S.out).mono ?_
  rintro e w8 ⟨rfl, b8⟩
  go_wp2_with fail
  go_ret
  exact ⟨rfl, (b7.alloc b7.size _).trans (b8.mono (by have := b7.size; simp; omega))⟩
end Go.Proofs.YtpdekihfgglmkaaDoor
