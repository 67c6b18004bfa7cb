/-
  An element of a heap raised; its first child; an element lowered. Condition: keys are ints; at most 2^20 elements.
-/
import Derived.Test.YtahbgafjljfndaaZSwp
import Derived.Test.YtahbgafjljfndaaZBef
namespace Go.Proofs.Ytahbgafjljfndaa
open Go.RowKit

theorem raise_yes {less : Pr → Pr → Bool} {l : List (Pr × Nat)} {i : Nat} (h0 : 0 < i) (hb : befAt less l i ((i - 1) / 2) = true) : raise less l i = raise less (swp l i ((i - 1) / 2)) ((i - 1) / 2) := by
  conv => lhs; unfold raise
  rw [dif_pos ⟨h0, hb⟩]
theorem raise_no {less : Pr → Pr → Bool} {l : List (Pr × Nat)} {i : Nat} (h : ¬ (0 < i ∧ befAt less l i ((i - 1) / 2) = true)) : raise less l i = l := by
  unfold raise
  rw [dif_neg h]
set_option maxRecDepth 100000 in
set_option maxHeartbeats 4000000 in
theorem raise_any {fn : Value} {less : Pr → Pr → Bool} (hf : Fun fn less) (B n : Nat) (l : List (Pr × Nat)) (i : Nat) (hi : i < l.length) (hl : l.length ≤ 1048576) (w : World) (h : St w B fn l n) :
    Calls Try.prog 41 #[.pointer (some ⟨B, 0, none⟩), .int .i64 (i : Int)] w fun e w' => e = .returned (.tuple #[]) ∧ St w' B fn (raise less l i) n ∧ Fr HT B w w' := by
  have HF := Lib.hid hf
  have HB : B < w.heap.size := h.lt
  have H := Lib.hid h
  clear h hf
  go_enter Try.func41, Try.ntmps41
  go_wp2_with fail
  go_loopw [1] (fun u wr => ∃ (k : Nat) (l' : List (Pr × Nat)), u = .int .i64 (k : Int) ∧ k < l'.length ∧ l'.length = l.length ∧ Hid (raise less l' k = raise less l i) ∧ Hid (St wr B fn l' n) ∧ Hid (Fr HT B w wr)) (fun u _ => (intOf u).toNat)
  case atStart => exact ⟨i, l, rfl, hi, rfl, Lib.hid rfl, H, Lib.hid (Fr.refl _ _ _)⟩
  case round =>
    obtain ⟨k, l', rfl, hk, hl', HR, HS, HW⟩ := hrel
    by_cases h0 : 0 < k
    · obtain ⟨a, ha⟩ := at_lt hk
      have RN := Lib.hid (fun x y => raise_yes (less := less) (l := l') (i := k) x y)
      have R0 := Lib.hid (fun x => raise_no (less := less) (l := l') (i := k) x)
      obtain ⟨p, hpe⟩ : ∃ p, (k - 1) / 2 = p := ⟨_, rfl⟩
      rw [hpe] at RN R0
      have hp : p < l'.length := by omega
      have hkp : p < k := by omega
      obtain ⟨b, hb⟩ := at_lt hp
      have e1 : ((k : Int) - 1) / 2 = (p : Int) := by omega
      have C := Lib.hid (before_any HF.out B n l' k p a b ha hb (by omega) wr HS.out)
      have D := Lib.hid (fun W hw => swap_any (fn := fn) B n l' k p a b ha hb (by omega) (by omega) W hw)
      have T := befAt_eq less ha hb
      have g1 : (1 : Int) ≤ (k : Int) := by omega
      have SL := Lib.hid (swp_len l' k p)
      clear ha hb hpe
      cases hx : bef less a b with
      | true =>
        rw [hx] at C T
        have E := Lib.hid (RN.out h0 T)
        clear T RN R0 hx
        go_wp2_with fail
        refine C.out.mono ?_
        rintro e w1 ⟨rfl, b1⟩
        have S1 := Lib.hid (HS.out.below b1)
        have W1 : Hid (Fr HT B w w1) := HW.out.trans (Below.fr b1)
        clear b1 HS HW C
        go_wp2_with fail
        refine (D.out _ S1.out).mono ?_
        rintro e w2 ⟨rfl, s2, b2⟩
        have S2 := Lib.hid s2
        have W2 : Hid (Fr HT B w w2) := W1.out.trans b2
        clear b2 s2 S1 W1 D
        go_wp2_with fail
        go_roundw
        case rel => exact ⟨p, _, rfl, by rw [SL.out]; exact hp, by rw [SL.out]; exact hl', Lib.hid (E.out.symm.trans HR.out), S2, W2⟩
        case measure => simp [intOf]; omega
      | false =>
        rw [hx] at C T
        have E := Lib.hid (R0.out (by rw [T]; simp))
        clear T RN R0 hx D
        go_wp2_with fail
        refine C.out.mono ?_
        rintro e w1 ⟨rfl, b1⟩
        have S1 : Hid (St w1 B fn (raise less l i) n) := by
          rw [← HR.out, E.out]
          exact HS.out.below b1
        have W1 : Hid (Fr HT B w w1) := HW.out.trans (Below.fr b1)
        clear b1 HS HW C
        go_wp2_with fail
        refine bodyPost_ret (results_none rfl _ _ _) rfl ?_
        exact ⟨rfl, S1.out, W1.out⟩
    · have S1 : Hid (St wr B fn (raise less l i) n) := by
        rw [← HR.out, raise_no (fun h => h0 h.1)]
        exact HS.out
      clear HS
      have hk0 : k = 0 := by omega
      subst hk0
      go_wp2_with fail
      go_end0
      exact ⟨rfl, S1.out, HW.out⟩
end Go.Proofs.Ytahbgafjljfndaa
