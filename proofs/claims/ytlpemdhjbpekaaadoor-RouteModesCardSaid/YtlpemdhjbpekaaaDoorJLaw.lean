/-
  The laws RouteChecks, RouteNames, RouteSelects, RouteTexts: each answers true for every input; nothing that existed before the call has changed behind it. Condition: the tables as their initialisers lay them; lengths and ints of 64 bits.
-/
import Derived.Test.YtlpemdhjbpekaaaDoorJEx
namespace Go.Proofs.YtlpemdhjbpekaaaDoor
open Go.RowKit

/-- What a route among the arguments may be. -/
def OkR (l : List Rt) : Prop := ∀ x ∈ l, -9223372036854775808 ≤ x.2.1 ∧ x.2.1 ≤ 9223372036854775807
theorem beq_same (b : Bool) : (b == b) = true := by cases b <;> rfl
set_option maxRecDepth 100000 in
set_option maxHeartbeats 4000000 in
theorem checks_law (v : Value) (l : List Rt) (hl : l.length ≤ 9223372036854775807) (_ : OkR l) (t : ByteArray) (w : World) (hg : GoodR w) (h : LstR w v l) : Calls Tryd.prog 3 #[v, .string t] w fun e w' => e = .returned (.bool true) ∧ Below w.heap.size w w' := by
  have H := Lib.hid h
  have HG := Lib.hid hg
  obtain ⟨A, c, rfl, -, -, -⟩ := h
  by_cases h1 : 100 < l.length
  · have g : (100 : Int) < (l.length : Int) := by omega
    clear h1 hg
    go_enter Tryd.func3, Tryd.ntmps3
    go_wp2_with fail
    refine (ex_any w HG.out).mono ?_
    rintro e w2 ⟨rfl, b2⟩
    have B2 := Lib.hid b2
    clear b2
    go_wp2_with fail
    go_ret
    exact ⟨rfl, B2.out⟩
  · have g : decide ((100 : Int) < (l.length : Int)) = false := by rw [decide_eq_false_iff_not]; omega
    clear hg
    go_enter Tryd.func3, Tryd.ntmps3
    go_wp2_with fail
    refine (kcheck_any _ l hl w H.out).mono ?_
    rintro e w1 ⟨rfl, b1⟩
    have B1 := Lib.hid b1
    have H1 := Lib.hid (H.out.below b1)
    have G1 := Lib.hid (HG.out.below b1)
    clear b1 H HG g
    go_wp2_with fail
    refine (rcheck_any _ l hl w1 H1.out).mono ?_
    rintro e w2 ⟨rfl, n2⟩
    have b2 := drew_below n2
    have B2 := Lib.hid (B1.out.trans (b2.mono B1.out.size))
    have H2 := Lib.hid (H1.out.below b2)
    have G2 := Lib.hid (G1.out.below b2)
    clear b2 n2 B1 H1 G1
    generalize (chkR l).1 = p
    generalize (chkR l).2 = q
    have t1 := beq_true (a := p) rfl
    have t2 := beq_true (a := q) rfl
    have K := Lib.hid (fun W hW => kfind_any (.slice A l.length c) l (by omega) t.data.toList t (str_list t) W hW)
    have F := Lib.hid (fun W hW => rfind_any (.slice A l.length c) l (by omega) t.data.toList t (str_list t) W hW)
    generalize max (fdT (isR t.data.toList) l) 0 = r at K F
    generalize decide (0 ≤ fdT (isR t.data.toList) l) = f at K F
    have t3 := beq_true (a := r) rfl
    have t4 := beq_same f
    clear hl h1
    go_wp2_with fail
    refine (K.out w2 H2.out).mono ?_
    rintro e w3 ⟨rfl, b3⟩
    have B3 := Lib.hid (B2.out.trans (b3.mono B2.out.size))
    have H3 := Lib.hid (H2.out.below b3)
    have G3 := Lib.hid (G2.out.below b3)
    clear b3 B2 H2 G2 K
    go_wp2_with fail
    refine (F.out w3 H3.out).mono ?_
    rintro e w' ⟨rfl, rfl⟩
    clear F H3
    go_wp2_with fail
    refine (ex_any w3 G3.out).mono ?_
    rintro e w4 ⟨rfl, b4⟩
    have B4 := Lib.hid (B3.out.trans (b4.mono B3.out.size))
    clear b4 B3 G3
    go_wp2_with fail
    go_ret
    exact ⟨rfl, B4.out⟩
set_option maxRecDepth 100000 in
set_option maxHeartbeats 4000000 in
theorem names_law (m : Int) (t : ByteArray) (w : World) (hg : GoodR w) : Calls Tryd.prog 4 #[.int .i64 m, .string t] w fun e w' => e = .returned (.bool true) ∧ Below w.heap.size w w' := by
  have P := Lib.hid (fun W hW => parse_any t.data.toList t (str_list t) W hW)
  have R := Lib.hid (fun W => rparse_any t.data.toList t (str_list t) W)
  generalize max (modeR t.data.toList) 0 = r at P R
  generalize decide (0 ≤ modeR t.data.toList) = f at P R
  have t3 := beq_true (a := r) rfl
  have t4 := beq_same f
  have HG := Lib.hid hg
  clear hg
  by_cases hm : okM m
  · obtain ⟨k, rfl⟩ := Int.eq_ofNat_of_zero_le hm.1
    have hk : k < 8 := by have := hm.2; omega
    have gk : (k : Int) < 8 := hm.2
    obtain ⟨z, hz⟩ : ∃ z, str (nmR k) = z := ⟨_, rfl⟩
    have N := Lib.hid (fun W hW => name_any k hk W hW)
    rw [hz] at N
    have ne : (z.toList != z.toList) = false := by simp
    have HZ := Lib.hid hz
    clear hz hm
    go_enter Tryd.func4, Tryd.ntmps4
    go_wp2_with fail
    refine (N.out _ HG.out).mono ?_
    rintro e w' ⟨rfl, rfl⟩
    clear N
    go_wp2_with fail
    refine (rnames_any w).mono ?_
    rintro e w1 ⟨rfl, c1, b1⟩
    have c := c1 k hk
    rw [HZ.out] at c
    have B1 := Lib.hid b1
    have G1 := Lib.hid (HG.out.below b1)
    clear c1 b1 HZ HG
    go_wp2_with fail
    refine (P.out _ G1.out).mono ?_
    rintro e w' ⟨rfl, rfl⟩
    clear P
    go_wp2_with fail
    refine (R.out _).mono ?_
    rintro e w2 ⟨rfl, b2⟩
    have B2 := Lib.hid (B1.out.trans (b2.mono B1.out.size))
    have G2 := Lib.hid (G1.out.below b2)
    clear b2 R B1 G1 c ne
    go_wp2_with fail
    refine (ex_any w2 G2.out).mono ?_
    rintro e w4 ⟨rfl, b4⟩
    have B4 := Lib.hid (B2.out.trans (b4.mono B2.out.size))
    clear b4 B2 G2
    go_wp2_with fail
    go_ret
    exact ⟨rfl, B4.out⟩
  · have N := Lib.hid (fun W => name_no m hm W)
    have hway : (m < 0) ∨ (0 ≤ m ∧ ¬ m < 8) := by unfold okM at hm; omega
    rcases hway with h0 | ⟨h0, h8⟩
    · have d0 : decide (0 ≤ m) = false := by rw [decide_eq_false_iff_not]; omega
      clear hm h0
      go_enter Tryd.func4, Tryd.ntmps4
      go_wp2_with fail
      refine (N.out _).mono ?_
      rintro e w' ⟨rfl, rfl⟩
      clear N
      go_wp2_with fail
      refine (P.out _ HG.out).mono ?_
      rintro e w' ⟨rfl, rfl⟩
      clear P
      go_wp2_with fail
      refine (R.out _).mono ?_
      rintro e w2 ⟨rfl, b2⟩
      have B2 := Lib.hid b2
      have G2 := Lib.hid (HG.out.below b2)
      clear b2 R HG
      go_wp2_with fail
      refine (ex_any w2 G2.out).mono ?_
      rintro e w4 ⟨rfl, b4⟩
      have B4 := Lib.hid (B2.out.trans (b4.mono B2.out.size))
      clear b4 B2 G2
      go_wp2_with fail
      go_ret
      exact ⟨rfl, B4.out⟩
    · have d0 : decide (m < 8) = false := decide_eq_false h8
      clear hm h8
      go_enter Tryd.func4, Tryd.ntmps4
      go_wp2_with fail
      refine (N.out _).mono ?_
      rintro e w' ⟨rfl, rfl⟩
      clear N
      go_wp2_with fail
      refine (P.out _ HG.out).mono ?_
      rintro e w' ⟨rfl, rfl⟩
      clear P
      go_wp2_with fail
      refine (R.out _).mono ?_
      rintro e w2 ⟨rfl, b2⟩
      have B2 := Lib.hid b2
      have G2 := Lib.hid (HG.out.below b2)
      clear b2 R HG
      go_wp2_with fail
      refine (ex_any w2 G2.out).mono ?_
      rintro e w4 ⟨rfl, b4⟩
      have B4 := Lib.hid (B2.out.trans (b4.mono B2.out.size))
      clear b4 B2 G2
      go_wp2_with fail
      go_ret
      exact ⟨rfl, B4.out⟩
set_option maxRecDepth 100000 in
set_option maxHeartbeats 4000000 in
theorem selects_law (v : Value) (l : List Rt) (hl : l.length ≤ 9223372036854775807) (_ : OkR l) (n : Int) (w : World) (hg : GoodR w) (h : LstR w v l) : Calls Tryd.prog 5 #[v, .int .i64 n] w fun e w' => e = .returned (.bool true) ∧ Below w.heap.size w w' := by
  have H := Lib.hid h
  have HG := Lib.hid hg
  obtain ⟨A, c, rfl, -, -, -⟩ := h
  by_cases h1 : 100 < l.length
  · have g : (100 : Int) < (l.length : Int) := by omega
    clear h1 hg
    go_enter Tryd.func5, Tryd.ntmps5
    go_wp2_with fail
    refine (ex_any w HG.out).mono ?_
    rintro e w2 ⟨rfl, b2⟩
    have B2 := Lib.hid b2
    clear b2
    go_wp2_with fail
    go_ret
    exact ⟨rfl, B2.out⟩
  · have g : decide ((100 : Int) < (l.length : Int)) = false := by rw [decide_eq_false_iff_not]; omega
    have t1 := beq_true (a := ((modR l : Nat) : Int)) rfl
    have hi := with_le n l
    clear hg
    go_enter Tryd.func5, Tryd.ntmps5
    go_wp2_with fail
    refine (kmodes_any _ l (by omega) w H.out).mono ?_
    rintro e w1 ⟨rfl, b1⟩
    have B1 := Lib.hid b1
    have H1 := Lib.hid (H.out.below b1)
    have G1 := Lib.hid (HG.out.below b1)
    clear b1 H HG g
    go_wp2_with fail
    refine (rmodes_any _ l (by omega) w1 H1.out).mono ?_
    rintro e w' ⟨rfl, rfl⟩
    generalize ((modR l : Nat) : Int) = q at t1
    go_wp2_with fail
    refine (kwith_any _ l (by omega) n w1 H1.out).mono ?_
    rintro e w2 ⟨u2, rfl, o2, b2⟩
    have B2 := Lib.hid (B1.out.trans (b2.mono B1.out.size))
    have H2 := Lib.hid (H1.out.below b2)
    have G2 := Lib.hid (G1.out.below b2)
    have I2 : Hid (LstI w2 u2 (withR n l)) := OwnI.lst o2
    clear b2 B1 H1 G1 o2
    go_wp2_with fail
    refine (rwith_any _ l (by omega) n w2 H2.out).mono ?_
    rintro e w3 ⟨u3, rfl, o3, b3⟩
    have B3 := Lib.hid (B2.out.trans (b3.mono B2.out.size))
    have I3 := Lib.hid (I2.out.below b3)
    have G3 := Lib.hid (G2.out.below b3)
    have J3 : Hid (LstI w3 u3 (withR n l)) := OwnI.lst o3
    clear b3 B2 H2 o3 I2 G2
    generalize withR n l = x at hi I3 J3
    go_wp2_with fail
    refine (Calls.below (same_any u2 u3 x x (by omega) w3 I3.out J3.out)).mono ?_
    rw [show decide (x = x) = true from decide_eq_true rfl]
    rintro e w4 ⟨rfl, b4⟩
    have B4 := Lib.hid (B3.out.trans (b4.mono B3.out.size))
    have G4 := Lib.hid (G3.out.below b4)
    clear b4 B3 I3 J3 G3
    go_wp2_with fail
    refine (ex_any w4 G4.out).mono ?_
    rintro e w5 ⟨rfl, b5⟩
    have B5 := Lib.hid (B4.out.trans (b5.mono B4.out.size))
    clear b5 B4 G4
    go_wp2_with fail
    go_ret
    exact ⟨rfl, B5.out⟩
set_option maxRecDepth 100000 in
set_option maxHeartbeats 4000000 in
theorem texts_law (n : Int) (s : ByteArray) (h1 : -9223372036854775808 ≤ n) (h2 : n ≤ 9223372036854775807) (w : World) (hg : GoodR w) : Calls Tryd.prog 6 #[.int .i64 n, .string s] w fun e w' => e = .returned (.bool true) ∧ Below w.heap.size w w' := by
  have HG := Lib.hid hg
  by_cases hs : 100 < s.size
  · have g : (100 : Int) < (s.size : Int) := by omega
    clear hs hg h1 h2
    go_enter Tryd.func6, Tryd.ntmps6
    go_wp2_with fail
    refine (ex_any w HG.out).mono ?_
    rintro e w2 ⟨rfl, b2⟩
    have B2 := Lib.hid b2
    clear b2
    go_wp2_with fail
    go_ret
    exact ⟨rfl, B2.out⟩
  · have g : decide ((100 : Int) < (s.size : Int)) = false := by rw [decide_eq_false_iff_not]; omega
    have K := Lib.hid (fun W hW => kfmt_any n h1 h2 W hW)
    have F := Lib.hid (fun W => rfmt_any n W)
    obtain ⟨z, hz⟩ : ∃ z, str (fmtR n).1 = z := ⟨_, rfl⟩
    simp only [hz] at K F
    have ts := bytes_eq (a := z) (b := z) rfl
    generalize (fmtR n).2 = p at K F
    have t1 := beq_true (a := p) rfl
    have P := Lib.hid (fun W hW => kprs_any s.data.toList s (str_list s) (by rw [sz_list]; omega) W hW)
    have Q := Lib.hid (fun W => rprs_any s.data.toList s (str_list s) W)
    generalize (ansR (prsR s.data.toList)).1 = a at P Q
    generalize (ansR (prsR s.data.toList)).2 = b at P Q
    have t2 := beq_true (a := a) rfl
    have t3 := beq_true (a := b) rfl
    clear hs hg hz h1 h2
    go_enter Tryd.func6, Tryd.ntmps6
    go_wp2_with fail
    refine (K.out _ HG.out).mono ?_
    rintro e w1 ⟨rfl, b1⟩
    have B1 := Lib.hid b1
    have G1 := Lib.hid (HG.out.below b1)
    clear b1 HG g K
    go_wp2_with fail
    refine (F.out _).mono ?_
    rintro e w2 ⟨rfl, b2⟩
    have B2 := Lib.hid (B1.out.trans (b2.mono B1.out.size))
    have G2 := Lib.hid (G1.out.below b2)
    clear b2 B1 G1 F
    go_wp2_with fail
    refine (P.out _ G2.out).mono ?_
    rintro e w' ⟨rfl, rfl⟩
    clear P
    go_wp2_with fail
    refine (Q.out _).mono ?_
    rintro e w3 ⟨rfl, b3⟩
    have B3 := Lib.hid (B2.out.trans (b3.mono B2.out.size))
    have G3 := Lib.hid (G2.out.below b3)
    clear b3 B2 G2 Q
    go_wp2_with fail
    refine (ex_any w3 G3.out).mono ?_
    rintro e w4 ⟨rfl, b4⟩
    have B4 := Lib.hid (B3.out.trans (b4.mono B3.out.size))
    clear b4 B3 G3
    go_wp2_with fail
    go_ret
    exact ⟨rfl, B4.out⟩
end Go.Proofs.YtlpemdhjbpekaaaDoor
