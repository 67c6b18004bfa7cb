/-
  The laws StopChecks, StopFinds, StopLists, StopAccess: each answers true for every input; nothing that existed before the call has changed behind it. Condition: none beyond lengths of 63 bits.
-/
import Derived.Test.YtgjohpbhdgmifaaQEx
namespace Go.Proofs.Ytgjohpbhdgmifaa
open Go.RowKit

/-- What a stop among the arguments may be. -/
def OkS (l : List St) : Prop := ∀ x ∈ l, ((-9223372036854775808 ≤ x.2.1 ∧ x.2.1 ≤ 9223372036854775807) ∧ -9223372036854775808 ≤ x.2.2.2 ∧ x.2.2.2 ≤ 9223372036854775807)
theorem small_id {l : List St} (h : smallB l = true) : ∀ (j : Nat) x, l[j]? = some x → x.1.length ≤ 1048576 := fun _ _ hx => by
  have := small_at h hx
  omega
set_option maxRecDepth 100000 in
set_option maxHeartbeats 4000000 in
theorem checks_law (v : Value) (l : List St) (hl : l.length ≤ 9223372036854775807) (_ : OkS l) (w : World) (h : LstS w v l) : Calls Try.prog 3 #[v] w fun e w' => e = .returned (.bool true) ∧ Below w.heap.size w w' := by
  have SM := Lib.hid (small_any v l hl w h)
  have H := Lib.hid h
  clear h
  cases hb : smallB l with
  | false =>
    rw [hb] at SM
    clear hb hl
    go_enter Try.func3, Try.ntmps3
    go_wp2_with fail
    refine SM.out.mono ?_
    rintro e w1 ⟨rfl, b1⟩
    have B1 := Lib.hid b1
    clear b1 SM
    go_wp2_with fail
    refine (ex_any w1).mono ?_
    rintro e w2 ⟨rfl, b2⟩
    have B2 := Lib.hid (B1.out.trans (b2.mono B1.out.size))
    clear b2 B1
    go_wp2_with fail
    go_ret
    exact ⟨rfl, B2.out⟩
  | true =>
    rw [hb] at SM
    have HS := Lib.hid (small_id hb)
    clear hb
    go_enter Try.func3, Try.ntmps3
    go_wp2_with fail
    refine SM.out.mono ?_
    rintro e w1 ⟨rfl, b1⟩
    have B1 := Lib.hid b1
    have H1 := Lib.hid (H.out.below b1)
    clear b1 SM H
    go_wp2_with fail
    refine (kcheck_any v l hl HS.out w1 H1.out).mono ?_
    rintro e w2 ⟨rfl, b2⟩
    have B2 := Lib.hid (B1.out.trans (b2.mono B1.out.size))
    have H2 := Lib.hid (H1.out.below b2)
    clear b2 B1 H1
    go_wp2_with fail
    refine (rcheck_any v l hl HS.out w2 H2.out).mono ?_
    rintro e w3 ⟨rfl, rfl⟩
    generalize (chkT l).1 = p
    generalize (chkT l).2 = q
    have t1 := beq_true (a := p) rfl
    have t2 := beq_true (a := q) rfl
    clear H2 HS hl
    go_wp2_with fail
    refine (ex_any w2).mono ?_
    rintro e w4 ⟨rfl, b4⟩
    have B4 := Lib.hid (B2.out.trans (b4.mono B2.out.size))
    clear b4 B2
    go_wp2_with fail
    go_ret
    exact ⟨rfl, B4.out⟩
set_option maxRecDepth 100000 in
set_option maxHeartbeats 4000000 in
theorem finds_law (v : Value) (l : List St) (hl : l.length ≤ 9223372036854775807) (_ : OkS l) (t : ByteArray) (w : World) (h : LstS w v l) : Calls Try.prog 4 #[v, .string t] w fun e w' => e = .returned (.bool true) ∧ Below w.heap.size w w' := by
  have SM := Lib.hid (small_any v l hl w h)
  have H := Lib.hid h
  clear h
  cases hb : smallB l with
  | false =>
    rw [hb] at SM
    clear hb hl
    go_enter Try.func4, Try.ntmps4
    go_wp2_with fail
    refine SM.out.mono ?_
    rintro e w1 ⟨rfl, b1⟩
    have B1 := Lib.hid b1
    clear b1 SM
    go_wp2_with fail
    refine (ex_any w1).mono ?_
    rintro e w2 ⟨rfl, b2⟩
    have B2 := Lib.hid (B1.out.trans (b2.mono B1.out.size))
    clear b2 B1
    go_wp2_with fail
    go_ret
    exact ⟨rfl, B2.out⟩
  | true =>
    rw [hb] at SM
    have h200 := small_len hb
    clear hb
    by_cases ht : 256 < t.size
    · have g : (256 : Int) < (t.size : Int) := by omega
      clear ht hl h200
      go_enter Try.func4, Try.ntmps4
      go_wp2_with fail
      refine SM.out.mono ?_
      rintro e w1 ⟨rfl, b1⟩
      have B1 := Lib.hid b1
      clear b1 SM
      go_wp2_with fail
      refine (ex_any w1).mono ?_
      rintro e w2 ⟨rfl, b2⟩
      have B2 := Lib.hid (B1.out.trans (b2.mono B1.out.size))
      clear b2 B1
      go_wp2_with fail
      go_ret
      exact ⟨rfl, B2.out⟩
    · have g : decide ((256 : Int) < (t.size : Int)) = false := by rw [decide_eq_false_iff_not]; omega
      clear ht
      go_enter Try.func4, Try.ntmps4
      go_wp2_with fail
      refine SM.out.mono ?_
      rintro e w1 ⟨rfl, b1⟩
      have B1 := Lib.hid b1
      have H1 := Lib.hid (H.out.below b1)
      clear b1 SM H
      have K := Lib.hid (kfind_any v l (by omega) t.data.toList t (str_list t) w1 H1.out)
      have F := Lib.hid (fun W (hW : LstS W v l) => rfind_any v l (by omega) t.data.toList t (str_list t) W hW)
      have hr := fndT_range l t.data.toList
      generalize fndT l t.data.toList = r at K F hr
      have hr2 : r = -1 ∨ r = 0 ∨ 0 < r := by omega
      clear hr hl h200
      rcases hr2 with rfl | rfl | hr
      · rw [show max (-1 : Int) 0 = 0 by rfl, show decide ((0 : Int) ≤ -1) = false by rfl] at K
        go_wp2_with fail
        refine K.out.mono ?_
        rintro e w2 ⟨rfl, b2⟩
        have B2 := Lib.hid (B1.out.trans (b2.mono B1.out.size))
        have H2 := Lib.hid (H1.out.below b2)
        clear b2 B1 H1 K
        go_wp2_with fail
        refine (F.out w2 H2.out).mono ?_
        rintro e w3 ⟨rfl, rfl⟩
        clear F H2
        go_wp2_with fail
        refine (ex_any w2).mono ?_
        rintro e w4 ⟨rfl, b4⟩
        have B4 := Lib.hid (B2.out.trans (b4.mono B2.out.size))
        clear b4 B2
        go_wp2_with fail
        go_ret
        exact ⟨rfl, B4.out⟩
      · rw [show max (0 : Int) 0 = 0 by rfl, show decide ((0 : Int) ≤ 0) = true by rfl] at K
        go_wp2_with fail
        refine K.out.mono ?_
        rintro e w2 ⟨rfl, b2⟩
        have B2 := Lib.hid (B1.out.trans (b2.mono B1.out.size))
        have H2 := Lib.hid (H1.out.below b2)
        clear b2 B1 H1 K
        go_wp2_with fail
        refine (F.out w2 H2.out).mono ?_
        rintro e w3 ⟨rfl, rfl⟩
        clear F H2
        go_wp2_with fail
        refine (ex_any w2).mono ?_
        rintro e w4 ⟨rfl, b4⟩
        have B4 := Lib.hid (B2.out.trans (b4.mono B2.out.size))
        clear b4 B2
        go_wp2_with fail
        go_ret
        exact ⟨rfl, B4.out⟩
      · rw [show max r 0 = r by omega, decide_eq_true (show 0 ≤ r by omega)] at K
        have d0 : decide (r < 0) = false := by rw [decide_eq_false_iff_not]; omega
        have d1 : 0 ≤ r := by omega
        have d2 := beq_true (a := r) rfl
        go_wp2_with fail
        refine K.out.mono ?_
        rintro e w2 ⟨rfl, b2⟩
        have B2 := Lib.hid (B1.out.trans (b2.mono B1.out.size))
        have H2 := Lib.hid (H1.out.below b2)
        clear b2 B1 H1 K
        go_wp2_with fail
        refine (F.out w2 H2.out).mono ?_
        rintro e w3 ⟨rfl, rfl⟩
        clear F H2
        go_wp2_with fail
        refine (ex_any w2).mono ?_
        rintro e w4 ⟨rfl, b4⟩
        have B4 := Lib.hid (B2.out.trans (b4.mono B2.out.size))
        clear b4 B2
        go_wp2_with fail
        go_ret
        exact ⟨rfl, B4.out⟩
set_option maxRecDepth 100000 in
set_option maxHeartbeats 4000000 in
theorem lists_law (v : Value) (l : List St) (hl : l.length ≤ 9223372036854775807) (_ : OkS l) (z : Int) (w : World) (h : LstS w v l) : Calls Try.prog 5 #[v, .int .i64 z] w fun e w' => e = .returned (.bool true) ∧ Below w.heap.size w w' := by
  have H := Lib.hid h
  obtain ⟨A, c, rfl, -, -, -⟩ := h
  by_cases h2 : 200 < l.length
  · have g : (200 : Int) < (l.length : Int) := by omega
    clear h2
    go_enter Try.func5, Try.ntmps5
    go_wp2_with fail
    refine (ex_any w).mono ?_
    rintro e w2 ⟨rfl, b2⟩
    have B2 := Lib.hid b2
    clear b2
    go_wp2_with fail
    go_ret
    exact ⟨rfl, B2.out⟩
  · have g : decide ((200 : Int) < (l.length : Int)) = false := by rw [decide_eq_false_iff_not]; omega
    have t1 := beq_true (a := ((zonT l : Nat) : Int)) rfl
    have hi := inT_le l z
    go_enter Try.func5, Try.ntmps5
    go_wp2_with fail
    refine (kzones_any _ l (by omega) w H.out).mono ?_
    rintro e w1 ⟨rfl, b1⟩
    have B1 := Lib.hid b1
    have H1 := Lib.hid (H.out.below b1)
    clear b1 H g
    go_wp2_with fail
    refine (rzones_any _ l (by omega) w1 H1.out).mono ?_
    rintro e w' ⟨rfl, rfl⟩
    generalize ((zonT l : Nat) : Int) = q at t1
    go_wp2_with fail
    refine (kin_any _ l (by omega) z w1 H1.out).mono ?_
    rintro e w2 ⟨u2, rfl, o2, b2⟩
    have B2 := Lib.hid (B1.out.trans (b2.mono B1.out.size))
    have H2 := Lib.hid (H1.out.below b2)
    have I2 : Hid (LstI w2 u2 (inT l z)) := OwnI.lst o2
    clear b2 B1 H1 o2
    go_wp2_with fail
    refine (rin_any _ l (by omega) z w2 H2.out).mono ?_
    rintro e w3 ⟨u3, rfl, o3, b3⟩
    have B3 := Lib.hid (B2.out.trans (b3.mono B2.out.size))
    have I3 := Lib.hid (I2.out.below b3)
    have J3 : Hid (LstI w3 u3 (inT l z)) := OwnI.lst o3
    clear b3 B2 H2 o3 I2
    generalize inT l z = m at hi I3 J3
    go_wp2_with fail
    refine (Calls.below (same_any u2 u3 m m (by omega) w3 I3.out J3.out)).mono ?_
    rw [show decide (m = m) = true from decide_eq_true rfl]
    rintro e w4 ⟨rfl, b4⟩
    have B4 := Lib.hid (B3.out.trans (b4.mono B3.out.size))
    clear b4 B3 I3 J3
    go_wp2_with fail
    refine (ex_any w4).mono ?_
    rintro e w5 ⟨rfl, b5⟩
    have B5 := Lib.hid (B4.out.trans (b5.mono B4.out.size))
    clear b5 B4
    go_wp2_with fail
    go_ret
    exact ⟨rfl, B5.out⟩
set_option maxRecDepth 100000 in
set_option maxHeartbeats 4000000 in
theorem access_law (v : Value) (l : List St) (hl : l.length ≤ 9223372036854775807) (_ : OkS l) (w : World) (h : LstS w v l) : Calls Try.prog 6 #[v] w fun e w' => e = .returned (.bool true) ∧ Below w.heap.size w w' := by
  have H := Lib.hid h
  obtain ⟨A, c, rfl, -, -, -⟩ := h
  by_cases h2 : 200 < l.length
  · have g : (200 : Int) < (l.length : Int) := by omega
    clear h2
    go_enter Try.func6, Try.ntmps6
    go_wp2_with fail
    refine (ex_any w).mono ?_
    rintro e w2 ⟨rfl, b2⟩
    have B2 := Lib.hid b2
    clear b2
    go_wp2_with fail
    go_ret
    exact ⟨rfl, B2.out⟩
  · have g : decide ((200 : Int) < (l.length : Int)) = false := by rw [decide_eq_false_iff_not]; omega
    have t1 := beq_true (a := ((freT l : Nat) : Int)) rfl
    go_enter Try.func6, Try.ntmps6
    go_wp2_with fail
    refine (kfree_any _ l (by omega) w H.out).mono ?_
    rintro e w1 ⟨rfl, b1⟩
    have B1 := Lib.hid b1
    have H1 := Lib.hid (H.out.below b1)
    clear b1 H g
    go_wp2_with fail
    refine (rfree_any _ l (by omega) w1 H1.out).mono ?_
    rintro e w' ⟨rfl, rfl⟩
    generalize ((freT l : Nat) : Int) = q at t1
    clear H1
    go_wp2_with fail
    refine (ex_any w1).mono ?_
    rintro e w5 ⟨rfl, b5⟩
    have B5 := Lib.hid (B1.out.trans (b5.mono B1.out.size))
    clear b5 B1
    go_wp2_with fail
    go_ret
    exact ⟨rfl, B5.out⟩
end Go.Proofs.Ytgjohpbhdgmifaa
