/-
  The laws CalendarChecks, CalendarExceptions, CalendarWeeks: each answers true for every input; nothing that existed before the call has changed behind it. Condition: none beyond lengths and numbers of 64 bits.
-/
import Derived.Test.YtlbockpaeacigaaYHold
import Derived.Test.YtlbockpaeacigaaYRChk
import Derived.Test.YtlbockpaeacigaaYRCx
namespace Go.Proofs.Ytlbockpaeacigaa
open Go.RowKit

/-- What a calendar, and an exception, among the arguments may be. -/
def OkC (l : List Cl) : Prop := ∀ x ∈ l, (-9223372036854775808 ≤ x.2.2.1 ∧ x.2.2.1 ≤ 9223372036854775807) ∧ -9223372036854775808 ≤ x.2.2.2 ∧ x.2.2.2 ≤ 9223372036854775807
def OkX (l : List Ex) : Prop := ∀ x ∈ l, (-9223372036854775808 ≤ x.1 ∧ x.1 ≤ 9223372036854775807) ∧ -9223372036854775808 ≤ x.2.1 ∧ x.2.1 ≤ 9223372036854775807
set_option maxRecDepth 100000 in
set_option maxHeartbeats 8000000 in
theorem checks_law (v : Value) (l : List Cl) (hl : l.length ≤ 9223372036854775807) (_ : OkC l) (w : World) (h : LstC w v l) : Calls Try.prog 3 #[v] w fun e w' => e = .returned (.bool true) ∧ Below w.heap.size w w' := by
  have NM := Lib.hid (named_any v l hl w h)
  have H := Lib.hid h
  have E := Lib.hid (fun W => ex_any W)
  clear h
  cases hb : namB l with
  | false =>
    rw [hb] at NM
    clear hb hl H
    go_enter Try.func3, Try.ntmps3
    go_wp2_with fail
    refine NM.out.mono ?_
    rintro e w' ⟨rfl, rfl⟩
    go_wp2_with fail
    refine (E.out _).mono ?_
    rintro e w1 ⟨rfl, b1⟩
    have B1 := Lib.hid b1
    clear b1 E
    go_wp2_with fail
    go_ret
    exact ⟨rfl, B1.out⟩
  | true =>
    rw [hb] at NM
    have HS : Hid (∀ (j : Nat) x, l[j]? = some x → x.1.length ≤ 1048576) := fun j x hx => Nat.le_trans (namB_at hb j x hx) (by decide)
    have C := Lib.hid (kcheck_any v l hl HS.out w H.out)
    have R := Lib.hid (fun W hW => Calls.below (rcheck_any v l hl HS.out W hW))
    generalize (chkC l).1 = p at C R
    generalize (chkC l).2 = q at C R
    have t1 := beq_true (a := p) rfl
    have t2 := beq_true (a := q) rfl
    clear hb hl HS
    go_enter Try.func3, Try.ntmps3
    go_wp2_with fail
    refine NM.out.mono ?_
    rintro e w' ⟨rfl, rfl⟩
    go_wp2_with fail
    refine C.out.mono ?_
    rintro e w1 ⟨rfl, b1⟩
    have B1 := Lib.hid b1
    clear b1 C NM
    go_wp2_with fail
    refine (R.out w1 (H.out.below B1.out)).mono ?_
    rintro e w2 ⟨rfl, b2⟩
    have B2 := Lib.hid (B1.out.trans (b2.mono B1.out.size))
    clear b2 B1 R H
    go_wp2_with fail
    refine (E.out _).mono ?_
    rintro e w3 ⟨rfl, b3⟩
    have B3 := Lib.hid (B2.out.trans (b3.mono B2.out.size))
    clear b3 B2 E
    go_wp2_with fail
    go_ret
    exact ⟨rfl, B3.out⟩
set_option maxRecDepth 100000 in
set_option maxHeartbeats 8000000 in
theorem exceptions_law (v : Value) (l : List Ex) (hl : l.length ≤ 9223372036854775807) (ok : OkX l) (n : Int) (w : World) (h : LstX w v l) : Calls Try.prog 4 #[v, .int .i64 n] w fun e w' => e = .returned (.bool true) ∧ Below w.heap.size w w' := by
  have H := Lib.hid h
  have E := Lib.hid (fun W => ex_any W)
  have C := Lib.hid (kcx_any v l n hl (fun j x hx => ok x (List.mem_of_getElem? hx)) w h)
  have R := Lib.hid (fun W hW => Calls.below (rcx_any v l n hl W hW))
  obtain ⟨A, c, rfl, -, -, -⟩ := h
  by_cases c1 : 300 < l.length
  · have g : (300 : Int) < (l.length : Int) := by omega
    clear hl ok C R H c1
    go_enter Try.func4, Try.ntmps4
    go_wp2_with fail
    refine (E.out _).mono ?_
    rintro e w1 ⟨rfl, b1⟩
    have B1 := Lib.hid b1
    clear b1 E
    go_wp2_with fail
    go_ret
    exact ⟨rfl, B1.out⟩
  have g : decide ((300 : Int) < (l.length : Int)) = false := by rw [decide_eq_false_iff_not]; omega
  generalize (chkX n l).1 = p at C R
  generalize (chkX n l).2 = q at C R
  have t1 := beq_true (a := p) rfl
  have t2 := beq_true (a := q) rfl
  clear hl ok c1
  go_enter Try.func4, Try.ntmps4
  go_wp2_with fail
  refine C.out.mono ?_
  rintro e w1 ⟨rfl, b1⟩
  have B1 := Lib.hid b1
  clear b1 C
  go_wp2_with fail
  refine (R.out w1 (H.out.below B1.out)).mono ?_
  rintro e w2 ⟨rfl, b2⟩
  have B2 := Lib.hid (B1.out.trans (b2.mono B1.out.size))
  clear b2 B1 R H
  go_wp2_with fail
  refine (E.out _).mono ?_
  rintro e w3 ⟨rfl, b3⟩
  have B3 := Lib.hid (B2.out.trans (b3.mono B2.out.size))
  clear b3 B2 E
  go_wp2_with fail
  go_ret
  exact ⟨rfl, B3.out⟩
set_option maxRecDepth 100000 in
set_option maxHeartbeats 8000000 in
theorem weeks_law (v : Value) (l : List Cl) (_ : l.length ≤ 9223372036854775807) (_ : OkC l) (i d : Int) (w : World) (h : LstC w v l) : Calls Try.prog 9 #[v, .int .i64 i, .int .i64 d] w fun e w' => e = .returned (.bool true) ∧ Below w.heap.size w w' := by
  have H := Lib.hid h
  have E := Lib.hid (fun W => ex_any W)
  obtain ⟨A, c, rfl, -, -, -⟩ := h
  by_cases c1 : 8 < l.length
  · have g : (8 : Int) < (l.length : Int) := by omega
    clear H c1
    go_enter Try.func9, Try.ntmps9
    go_wp2_with fail
    refine (E.out _).mono ?_
    rintro e w1 ⟨rfl, b1⟩
    have B1 := Lib.hid b1
    clear b1 E
    go_wp2_with fail
    go_ret
    exact ⟨rfl, B1.out⟩
  have g1 : decide ((8 : Int) < (l.length : Int)) = false := by rw [decide_eq_false_iff_not]; omega
  by_cases c2 : i < 0
  · clear H c1
    go_enter Try.func9, Try.ntmps9
    go_wp2_with fail
    refine (E.out _).mono ?_
    rintro e w1 ⟨rfl, b1⟩
    have B1 := Lib.hid b1
    clear b1 E
    go_wp2_with fail
    go_ret
    exact ⟨rfl, B1.out⟩
  obtain ⟨n, rfl⟩ : ∃ n : Nat, i = n := ⟨i.toNat, by omega⟩
  by_cases c3 : l.length ≤ n
  · have g3 : (l.length : Int) ≤ (n : Int) := by omega
    clear H c1 c2
    go_enter Try.func9, Try.ntmps9
    go_wp2_with fail
    refine (E.out _).mono ?_
    rintro e w1 ⟨rfl, b1⟩
    have B1 := Lib.hid b1
    clear b1 E
    go_wp2_with fail
    go_ret
    exact ⟨rfl, B1.out⟩
  have g3 : decide (l.length ≤ n) = false := decide_eq_false c3
  have gk : (n : Int) < (l.length : Int) := by omega
  by_cases c4 : d < 0
  · clear H c1 c2 c3
    go_enter Try.func9, Try.ntmps9
    go_wp2_with fail
    refine (E.out _).mono ?_
    rintro e w1 ⟨rfl, b1⟩
    have B1 := Lib.hid b1
    clear b1 E
    go_wp2_with fail
    go_ret
    exact ⟨rfl, B1.out⟩
  have g4 : decide (d < 0) = false := decide_eq_false c4
  by_cases c5 : 36517 < d
  · clear H c1 c2 c3 c4
    go_enter Try.func9, Try.ntmps9
    go_wp2_with fail
    refine (E.out _).mono ?_
    rintro e w1 ⟨rfl, b1⟩
    have B1 := Lib.hid b1
    clear b1 E
    go_wp2_with fail
    go_ret
    exact ⟨rfl, B1.out⟩
  have g5 : decide ((36517 : Int) < d) = false := decide_eq_false c5
  obtain ⟨⟨id, k, f, t⟩, hc⟩ := at_lt (show n < l.length by omega)
  have A1 := Lib.hid (fun W hW => active_any (.slice A l.length c) (.slice none 0 0) l [] (by simp) n d W hW (LstG.nil _ _))
  have A2 := Lib.hid (fun W hW => active_any (.slice A l.length c) (.slice none 0 0) l [] (by simp) n (d + 7) W hW (LstG.nil _ _))
  have OUT := Lib.hid (fun ho => week_out hc (d := d) (by omega) (by omega) ho)
  have SAM := Lib.hid (fun hf ht => week_same hc (d := d) (by omega) (by omega) hf ht)
  simp only at OUT SAM
  have h0 : 0 ≤ d ∧ d ≤ 36517 := by omega
  have HC := Lib.hid hc
  generalize actT l [] n d = y at A1 OUT SAM
  generalize actT l [] n (d + 7) = y2 at A2 SAM
  clear hc c1 c2 c3 c4 c5
  by_cases o1 : d < f
  · have R := OUT.out (.inl o1)
    subst R
    clear OUT SAM
    go_enter Try.func9, Try.ntmps9
    go_wp2_with fail
    refine (A1.out w H.out).mono ?_
    rintro e w1 ⟨rfl, b1⟩
    have B1 := Lib.hid b1
    clear b1 A1
    go_wp2_with fail
    refine (A2.out w1 (H.out.below B1.out)).mono ?_
    rintro e w2 ⟨rfl, b2⟩
    have B2 := Lib.hid (B1.out.trans (b2.mono B1.out.size))
    clear b2 B1 A2
    obtain ⟨b, o, rfl, -, -, -, m8, m9⟩ := ten_at (H.out.below B2.out) HC.out rfl
    clear H HC
    go_wp2_with fail
    refine (E.out _).mono ?_
    rintro e w3 ⟨rfl, b3⟩
    have B3 := Lib.hid (B2.out.trans (b3.mono B2.out.size))
    clear b3 B2 E
    go_wp2_with fail
    go_ret
    exact ⟨rfl, B3.out⟩
  have d1 : decide (d < f) = false := decide_eq_false o1
  by_cases o2 : t < d
  · have R := OUT.out (.inr o2)
    subst R
    clear OUT SAM o1
    go_enter Try.func9, Try.ntmps9
    go_wp2_with fail
    refine (A1.out w H.out).mono ?_
    rintro e w1 ⟨rfl, b1⟩
    have B1 := Lib.hid b1
    clear b1 A1
    go_wp2_with fail
    refine (A2.out w1 (H.out.below B1.out)).mono ?_
    rintro e w2 ⟨rfl, b2⟩
    have B2 := Lib.hid (B1.out.trans (b2.mono B1.out.size))
    clear b2 B1 A2
    obtain ⟨b, o, rfl, -, -, -, m8, m9⟩ := ten_at (H.out.below B2.out) HC.out rfl
    clear H HC
    go_wp2_with fail
    refine (E.out _).mono ?_
    rintro e w3 ⟨rfl, b3⟩
    have B3 := Lib.hid (B2.out.trans (b3.mono B2.out.size))
    clear b3 B2 E
    go_wp2_with fail
    go_ret
    exact ⟨rfl, B3.out⟩
  have d2 : decide (t < d) = false := decide_eq_false o2
  by_cases o3 : t < d + 7
  · clear OUT SAM o1 o2
    go_enter Try.func9, Try.ntmps9
    go_wp2_with fail
    refine (A1.out w H.out).mono ?_
    rintro e w1 ⟨rfl, b1⟩
    have B1 := Lib.hid b1
    clear b1 A1
    go_wp2_with fail
    refine (A2.out w1 (H.out.below B1.out)).mono ?_
    rintro e w2 ⟨rfl, b2⟩
    have B2 := Lib.hid (B1.out.trans (b2.mono B1.out.size))
    clear b2 B1 A2
    obtain ⟨b, o, rfl, -, -, -, m8, m9⟩ := ten_at (H.out.below B2.out) HC.out rfl
    clear H HC
    go_wp2_with fail
    refine (E.out _).mono ?_
    rintro e w3 ⟨rfl, b3⟩
    have B3 := Lib.hid (B2.out.trans (b3.mono B2.out.size))
    clear b3 B2 E
    go_wp2_with fail
    go_ret
    exact ⟨rfl, B3.out⟩
  have d3 : decide (t < d + 7) = false := decide_eq_false o3
  have R := SAM.out (by omega) (by omega)
  subst R
  clear OUT SAM o1 o2 o3
  cases y2
  · go_enter Try.func9, Try.ntmps9
    go_wp2_with fail
    refine (A1.out w H.out).mono ?_
    rintro e w1 ⟨rfl, b1⟩
    have B1 := Lib.hid b1
    clear b1 A1
    go_wp2_with fail
    refine (A2.out w1 (H.out.below B1.out)).mono ?_
    rintro e w2 ⟨rfl, b2⟩
    have B2 := Lib.hid (B1.out.trans (b2.mono B1.out.size))
    clear b2 B1 A2
    obtain ⟨b, o, rfl, -, -, -, m8, m9⟩ := ten_at (H.out.below B2.out) HC.out rfl
    clear H HC
    go_wp2_with fail
    refine (E.out _).mono ?_
    rintro e w3 ⟨rfl, b3⟩
    have B3 := Lib.hid (B2.out.trans (b3.mono B2.out.size))
    clear b3 B2 E
    go_wp2_with fail
    go_ret
    exact ⟨rfl, B3.out⟩
  · go_enter Try.func9, Try.ntmps9
    go_wp2_with fail
    refine (A1.out w H.out).mono ?_
    rintro e w1 ⟨rfl, b1⟩
    have B1 := Lib.hid b1
    clear b1 A1
    go_wp2_with fail
    refine (A2.out w1 (H.out.below B1.out)).mono ?_
    rintro e w2 ⟨rfl, b2⟩
    have B2 := Lib.hid (B1.out.trans (b2.mono B1.out.size))
    clear b2 B1 A2
    obtain ⟨b, o, rfl, -, -, -, m8, m9⟩ := ten_at (H.out.below B2.out) HC.out rfl
    clear H HC
    go_wp2_with fail
    refine (E.out _).mono ?_
    rintro e w3 ⟨rfl, b3⟩
    have B3 := Lib.hid (B2.out.trans (b3.mono B2.out.size))
    clear b3 B2 E
    go_wp2_with fail
    go_ret
    exact ⟨rfl, B3.out⟩
end Go.Proofs.Ytlbockpaeacigaa
