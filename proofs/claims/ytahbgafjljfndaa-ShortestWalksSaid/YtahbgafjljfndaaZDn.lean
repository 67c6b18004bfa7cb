/-
  The first child of an element of a heap; an element lowered. Condition: keys are ints; at most 2^20 elements.
-/
import Derived.Test.YtahbgafjljfndaaZUp
namespace Go.Proofs.Ytahbgafjljfndaa
open Go.RowKit

set_option maxRecDepth 100000 in
set_option maxHeartbeats 4000000 in
theorem child_any {fn : Value} {less : Pr → Pr → Bool} (hf : Fun fn less) (B n : Nat) (l : List (Pr × Nat)) (i : Nat) (hi : i < l.length) (hl : l.length ≤ 1048576) (w : World) (h : St w B fn l n) :
    Calls Try.prog 47 #[.pointer (some ⟨B, 0, none⟩), .int .i64 (i : Int)] w fun e w' => e = .returned (.int .i64 ((kid less l i : Nat) : Int)) ∧ Below w.heap.size w w' := by
  obtain ⟨r, hr⟩ : ∃ r, 2 * i + 2 = r := ⟨_, rfl⟩
  obtain ⟨m, hm⟩ : ∃ m, 2 * i + 1 = m := ⟨_, rfl⟩
  have K : kid less l i = if r < l.length ∧ befAt less l r m = true then r else m := by unfold kid; rw [hr, hm]
  have e2 : 2 * (i : Int) + 2 = (r : Int) := by omega
  have e1 : 2 * (i : Int) + 1 = (m : Int) := by omega
  have hri : r ≤ 2097154 := by omega
  obtain ⟨v, m0, m1, m2, -, -, -, o⟩ := h.cells
  rcases o.low with ⟨-, rfl⟩ | ⟨g, c, rfl, g0, g1, hc⟩
  · simp at hi
  clear m0 m2 o g0 g1 hc
  have HL := Lib.hid hl
  have HI := Lib.hid hi
  by_cases c1 : r < l.length
  · obtain ⟨b, hb⟩ := at_lt c1
    have c2 : m < l.length := by omega
    obtain ⟨a, ha⟩ := at_lt c2
    have C := Lib.hid (before_any hf B n l r m b a hb ha (by omega) w h)
    have T := befAt_eq less hb ha
    clear h hf hb ha hr hm
    cases hx : bef less b a with
    | true =>
      rw [hx] at C T
      rw [if_pos ⟨c1, T⟩] at K
      have KK := Lib.hid K
      clear K T hx
      go_enter Try.func47, Try.ntmps47
      go_wp2_with fail
      refine C.out.mono ?_
      rintro e w1 ⟨rfl, b1⟩
      clear m1
      go_wp2_with fail
      go_ret
      exact ⟨ret_int (by rw [KK.out]), b1⟩
    | false =>
      rw [hx] at C T
      rw [if_neg (by rw [T]; simp)] at K
      have KK := Lib.hid K
      clear K T hx
      go_enter Try.func47, Try.ntmps47
      go_wp2_with fail
      refine C.out.mono ?_
      rintro e w1 ⟨rfl, b1⟩
      clear m1
      go_wp2_with fail
      go_ret
      exact ⟨ret_int (by rw [KK.out]), b1⟩
  · rw [if_neg (fun h => c1 h.1)] at K
    have KK := Lib.hid K
    have d1 : decide (r < l.length) = false := decide_eq_false c1
    clear K h hf hr hm
    go_enter Try.func47, Try.ntmps47
    go_wp2_with fail
    go_ret
    exact ⟨ret_int (by rw [KK.out]), Below.refl _ _⟩
theorem lower_yes {less : Pr → Pr → Bool} {l : List (Pr × Nat)} {i c : Nat} (hc : kid less l i = c) (hb : befAt less l c i = true) : lower less l i = lower less (swp l i c) c := by
  subst hc
  conv => lhs; unfold lower
  rw [dif_pos ⟨(befAt_lt less hb).1, hb⟩]
theorem lower_no {less : Pr → Pr → Bool} {l : List (Pr × Nat)} {i c : Nat} (hc : kid less l i = c) (h : ¬ (c < l.length ∧ befAt less l c i = true)) : lower less l i = l := by
  subst hc
  unfold lower
  rw [dif_neg h]
/-- The length of what a heap holds, as it is read. -/
theorem St.slice {w : World} {B : Nat} {fn : Value} {l : List (Pr × Nat)} {n : Nat} (h : St w B fn l n) : ∃ A c, w.cell? ⟨B, 1, none⟩ = some (.slice A l.length c) := by
  obtain ⟨v, _, m1, _, _, _, _, o⟩ := h.cells
  obtain ⟨A, c, rfl, _⟩ := ownK_shape o
  exact ⟨A, c, m1⟩
set_option maxRecDepth 100000 in
set_option maxHeartbeats 4000000 in
theorem lower_any {fn : Value} {less : Pr → Pr → Bool} (hf : Fun fn less) (B n : Nat) (l : List (Pr × Nat)) (i : Nat) (hi : i < l.length) (hl : l.length ≤ 1048576) (w : World) (h : St w B fn l n) :
    Calls Try.prog 43 #[.pointer (some ⟨B, 0, none⟩), .int .i64 (i : Int)] w fun e w' => e = .returned (.tuple #[]) ∧ St w' B fn (lower less l i) n ∧ Fr HT B w w' := by
  have HF := Lib.hid hf
  have H := Lib.hid h
  clear h hf
  go_enter Try.func43, Try.ntmps43
  go_wp2_with fail
  go_loopw [1] (fun u wr => ∃ (k : Nat) (l' : List (Pr × Nat)), u = .int .i64 (k : Int) ∧ k < l'.length ∧ l'.length = l.length ∧ Hid (lower less l' k = lower less l i) ∧ Hid (St wr B fn l' n) ∧ Hid (Fr HT B w wr)) (fun u _ => l.length - (intOf u).toNat)
  case atStart => exact ⟨i, l, rfl, hi, rfl, Lib.hid rfl, H, Lib.hid (Fr.refl _ _ _)⟩
  case round =>
    obtain ⟨k, l', rfl, hk, hl', HR, HS, HW⟩ := hrel
    obtain ⟨a, ha⟩ := at_lt hk
    have CH := Lib.hid (child_any HF.out B n l' k hk (by omega) wr HS.out)
    have hkg := kid_gt less l' k
    obtain ⟨c, hc⟩ : ∃ c, kid less l' k = c := ⟨_, rfl⟩
    have RN := Lib.hid (fun y => lower_yes (less := less) hc y)
    have R0 := Lib.hid (fun x => lower_no (less := less) hc x)
    rw [hc] at CH hkg
    clear hc
    go_wp2_with fail
    refine CH.out.mono ?_
    rintro e w1 ⟨rfl, b1⟩
    have S1 := Lib.hid (HS.out.below b1)
    have W1 : Hid (Fr HT B w w1) := HW.out.trans (Below.fr b1)
    obtain ⟨A, cc, m1⟩ := S1.out.slice
    clear b1 HS HW CH
    by_cases hcl : c < l'.length
    · obtain ⟨b, hb⟩ := at_lt hcl
      have C := Lib.hid (before_any HF.out B n l' c k b a hb ha (by omega) w1 S1.out)
      have D := Lib.hid (fun W hw => swap_any (fn := fn) B n l' k c a b ha hb (by omega) (by omega) W hw)
      have T := befAt_eq less hb ha
      have SL := Lib.hid (swp_len l' k c)
      clear ha hb
      have d1 : decide (l'.length ≤ c) = false := decide_eq_false (by omega)
      cases hx : bef less b a with
      | true =>
        rw [hx] at C T
        have E := Lib.hid (RN.out T)
        clear T RN R0 hx
        go_wp2_with fail
        refine C.out.mono ?_
        rintro e w2 ⟨rfl, b2⟩
        have S2 := Lib.hid (S1.out.below b2)
        have W2 : Hid (Fr HT B w w2) := W1.out.trans (Below.fr b2)
        clear b2 S1 W1 C m1
        go_wp2_with fail
        refine (D.out _ S2.out).mono ?_
        rintro e w3 ⟨rfl, s3, b3⟩
        have S3 := Lib.hid s3
        have W3 : Hid (Fr HT B w w3) := W2.out.trans b3
        clear b3 s3 S2 W2 D
        go_wp2_with fail
        go_roundw
        case rel => exact ⟨c, _, rfl, by rw [SL.out]; exact hcl, by rw [SL.out]; exact hl', Lib.hid (E.out.symm.trans HR.out), S3, W3⟩
        case measure => simp [intOf]; omega
      | false =>
        rw [hx] at C T
        have E := Lib.hid (R0.out (by rw [T]; simp))
        clear T RN R0 hx D
        go_wp2_with fail
        refine C.out.mono ?_
        rintro e w2 ⟨rfl, b2⟩
        have S2 : Hid (St w2 B fn (lower less l i) n) := by
          rw [← HR.out, E.out]
          exact S1.out.below b2
        have W2 : Hid (Fr HT B w w2) := W1.out.trans (Below.fr b2)
        clear b2 S1 W1 C m1
        go_wp2_with fail
        refine bodyPost_ret (results_none rfl _ _ _) rfl ?_
        exact ⟨rfl, S2.out, W2.out⟩
    · have E := Lib.hid (R0.out (fun h => hcl h.1))
      have S2 : Hid (St w1 B fn (lower less l i) n) := by
        rw [← HR.out, E.out]
        exact S1.out
      have hcl' : l'.length ≤ c := by omega
      clear RN R0 ha S1
      go_wp2_with fail
      refine bodyPost_ret (results_none rfl _ _ _) rfl ?_
      exact ⟨rfl, S2.out, W1.out⟩
theorem child_nil {fn : Value} (B n : Nat) (w : World) (h : St w B fn [] n) : Calls Try.prog 47 #[.pointer (some ⟨B, 0, none⟩), .int .i64 0] w fun e w' => e = .returned (.int .i64 1) ∧ w = w' := by
  obtain ⟨A, c, m1⟩ := h.slice
  clear h
  simp only [List.length_nil] at m1
  go_enter Try.func47, Try.ntmps47
  go_wp2_with fail
  go_ret
  exact ⟨rfl, rfl⟩
theorem lower_nil {fn : Value} {less : Pr → Pr → Bool} (B n : Nat) (w : World) (h : St w B fn [] n) :
    Calls Try.prog 43 #[.pointer (some ⟨B, 0, none⟩), .int .i64 0] w fun e w' => e = .returned (.tuple #[]) ∧ St w' B fn (lower less [] 0) n ∧ Fr HT B w w' := by
  have e : lower less ([] : List (Pr × Nat)) 0 = [] := lower_no rfl (fun h => by simp at h)
  obtain ⟨A, c, m1⟩ := h.slice
  simp only [List.length_nil] at m1
  have C := Lib.hid (child_nil B n w h)
  have S : Hid (St w B fn (lower less [] 0) n) := by rw [e]; exact h
  clear h e
  go_enter Try.func43, Try.ntmps43
  go_wp2_with fail
  go_loopw [1] (fun u wr => u = .int .i64 0 ∧ w = wr) (fun u _ => (intOf u).toNat)
  case atStart => exact ⟨rfl, rfl⟩
  case round =>
    obtain ⟨rfl, rfl⟩ := hrel
    go_wp2_with fail
    refine C.out.mono ?_
    rintro e w' ⟨rfl, rfl⟩
    go_wp2_with fail
    refine bodyPost_ret (results_none rfl _ _ _) rfl ?_
    exact ⟨rfl, S.out, Fr.refl _ _ _⟩
theorem lower_top {fn : Value} {less : Pr → Pr → Bool} (hf : Fun fn less) (B n : Nat) (l : List (Pr × Nat)) (hl : l.length ≤ 1048576) (w : World) (h : St w B fn l n) :
    Calls Try.prog 43 #[.pointer (some ⟨B, 0, none⟩), .int .i64 0] w fun e w' => e = .returned (.tuple #[]) ∧ St w' B fn (lower less l 0) n ∧ Fr HT B w w' := by
  cases l with
  | nil => exact lower_nil B n w h
  | cons a r => exact lower_any hf B n (a :: r) 0 (by simp) hl w h
end Go.Proofs.Ytahbgafjljfndaa
