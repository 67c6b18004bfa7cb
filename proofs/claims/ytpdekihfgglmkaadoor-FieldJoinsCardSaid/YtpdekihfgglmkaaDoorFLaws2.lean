/-
  Six of package field's nine statements: each call returns true; nothing that existed before the call has changed behind it. Condition: none beyond each theorem's own hypotheses.
-/
import Derived.Test.YtpdekihfgglmkaaDoorFLaws
namespace Go.Proofs.YtpdekihfgglmkaaDoor
open Go.RowKit

theorem quotes_law (s : ByteArray) (w : World) : Calls Tryd.prog 3 #[.string s] w fun e w' => e = .returned (.bool true) ∧ Below w.heap.size w w' := by
  by_cases h : 16384 < s.size
  · have g : (16384 : Int) < (s.size : Int) := by omega
    clear h
    go_enter Tryd.func3, Tryd.ntmps3
    go_wp2_with fail
    refine (example_holds _).mono ?_
    rintro e w1 ⟨rfl, b1⟩
    go_wp2_with fail
    go_ret
    exact ⟨rfl, b1⟩
  · have g : decide ((16384 : Int) < (s.size : Int)) = false := by simp; omega
    have Q := Lib.hid (fun w => fquote_any s (by omega) w)
    have R := Lib.hid (fun w => rquote_any s (by omega) w)
    generalize str (quoteL s.data.toList) = q at Q R
    clear h
    go_enter Tryd.func3, Tryd.ntmps3
    go_wp2_with fail
    refine (Q.out _).mono ?_
    rintro e w1 ⟨rfl, b1⟩
    go_wp2_with fail
    refine (rel (W := w) (R.out _) b1).mono ?_
    rintro e w2 ⟨rfl, b2⟩
    clear b1
    go_wp2_with fail
    refine (rel (W := w) (example_holds _) b2).mono ?_
    rintro e w3 ⟨rfl, b3⟩
    clear b2
    go_wp2_with fail
    go_ret
    exact ⟨rfl, b3⟩
theorem unquotes_law (s : ByteArray) (w : World) : Calls Tryd.prog 4 #[.string s] w fun e w' => e = .returned (.bool true) ∧ Below w.heap.size w w' := by
  by_cases h : 16384 < s.size
  · have g : (16384 : Int) < (s.size : Int) := by omega
    clear h
    go_enter Tryd.func4, Tryd.ntmps4
    go_wp2_with fail
    refine (example_holds _).mono ?_
    rintro e w1 ⟨rfl, b1⟩
    go_wp2_with fail
    go_ret
    exact ⟨rfl, b1⟩
  · have g : decide ((16384 : Int) < (s.size : Int)) = false := by simp; omega
    have Q := Lib.hid (fun w => funq_any s (by omega) w)
    have R := Lib.hid (fun w => runq_any s (by omega) w)
    generalize str (unqR s.data.toList).1 = q at Q R
    generalize (unqR s.data.toList).2 = x at Q R
    clear h
    go_enter Tryd.func4, Tryd.ntmps4
    go_wp2_with fail
    refine (Q.out _).mono ?_
    rintro e w1 ⟨rfl, b1⟩
    go_wp2_with fail
    refine (rel (W := w) (R.out _) b1).mono ?_
    rintro e w2 ⟨rfl, b2⟩
    clear b1
    go_wp2_with fail
    refine (rel (W := w) (example_holds _) b2).mono ?_
    rintro e w3 ⟨rfl, b3⟩
    clear b2
    go_wp2_with fail
    go_ret
    exact ⟨rfl, b3⟩
theorem splits_law (s : ByteArray) (w : World) : Calls Tryd.prog 7 #[.string s] w fun e w' => e = .returned (.bool true) ∧ Below w.heap.size w w' := by
  by_cases h : 131072 < s.size
  · have g : (131072 : Int) < (s.size : Int) := by omega
    clear h
    go_enter Tryd.func7, Tryd.ntmps7
    go_wp2_with fail
    refine (example_holds _).mono ?_
    rintro e w1 ⟨rfl, b1⟩
    go_wp2_with fail
    go_ret
    exact ⟨rfl, b1⟩
  · have g : decide ((131072 : Int) < (s.size : Int)) = false := by simp; omega
    have Q := Lib.hid (fun w => fsplit_any s (by omega) w)
    have R := Lib.hid (fun w => rsplit_any s (by omega) w)
    generalize splitR s.data.toList = r at Q R
    clear h
    go_enter Tryd.func7, Tryd.ntmps7
    go_wp2_with fail
    refine (Q.out _).mono ?_
    rintro e w1 ⟨v1, rfl, o1, b1⟩
    have O1 := Lib.hid o1
    clear o1
    go_wp2_with fail
    refine (R.out _).mono ?_
    rintro e w2 ⟨v2, rfl, o2, b2'⟩
    have S := Lib.hid (same_any v1 v2 r.1 r.1 o2.len w2 (O1.out.lst.below b2') o2.lst)
    rw [decide_eq_true rfl] at S
    have b2 := b1.trans (b2'.mono b1.size)
    clear o2 b1 b2' O1
    generalize r.2 = x at *
    go_wp2_with fail
    refine (S.out).mono ?_
    rintro e w3 ⟨rfl, b3'⟩
    have b3 := b2.trans (b3'.mono b2.size)
    clear b2 b3'
    go_wp2_with fail
    refine (rel (W := w) (example_holds _) b3).mono ?_
    rintro e w4 ⟨rfl, b4⟩
    go_wp2_with fail
    go_ret
    exact ⟨rfl, b4⟩
theorem lines_law (s : ByteArray) (w : World) : Calls Tryd.prog 8 #[.string s] w fun e w' => e = .returned (.bool true) ∧ Below w.heap.size w w' := by
  by_cases h : 131072 < s.size
  · have g : (131072 : Int) < (s.size : Int) := by omega
    clear h
    go_enter Tryd.func8, Tryd.ntmps8
    go_wp2_with fail
    refine (example_holds _).mono ?_
    rintro e w1 ⟨rfl, b1⟩
    go_wp2_with fail
    go_ret
    exact ⟨rfl, b1⟩
  · have g : decide ((131072 : Int) < (s.size : Int)) = false := by simp; omega
    have Q := Lib.hid (fun w => flines_any s (by omega) w)
    have R := Lib.hid (fun w => rlines_any s (by omega) w)
    generalize linesR s.data.toList = r at Q R
    clear h
    go_enter Tryd.func8, Tryd.ntmps8
    go_wp2_with fail
    refine (Q.out _).mono ?_
    rintro e w1 ⟨v1, rfl, o1, b1⟩
    have O1 := Lib.hid o1
    clear o1
    go_wp2_with fail
    refine (R.out _).mono ?_
    rintro e w2 ⟨v2, rfl, o2, b2'⟩
    have S := Lib.hid (same_any v1 v2 r.1 r.1 o2.len w2 (O1.out.lst.below b2') o2.lst)
    rw [decide_eq_true rfl] at S
    have b2 := b1.trans (b2'.mono b1.size)
    clear o2 b1 b2' O1
    generalize r.2 = x at *
    go_wp2_with fail
    refine (S.out).mono ?_
    rintro e w3 ⟨rfl, b3'⟩
    have b3 := b2.trans (b3'.mono b2.size)
    clear b2 b3'
    go_wp2_with fail
    refine (rel (W := w) (example_holds _) b3).mono ?_
    rintro e w4 ⟨rfl, b4⟩
    go_wp2_with fail
    go_ret
    exact ⟨rfl, b4⟩
theorem joins_law (v : Value) (l : List (List UInt8)) (hl : l.length ≤ 9223372036854775807) (w : World) (h : Lst w v l) : Calls Tryd.prog 6 #[v] w fun e w' => e = .returned (.bool true) ∧ Below w.heap.size w w' := by
  have S := Lib.hid (small_any v l hl w h)
  cases hs : smallB l with
  | false =>
    rw [hs] at S
    clear hs h
    go_enter Tryd.func6, Tryd.ntmps6
    go_wp2_with fail
    refine (S.out).mono ?_
    rintro e w' ⟨rfl, rfl⟩
    go_wp2_with fail
    refine (example_holds _).mono ?_
    rintro e w1 ⟨rfl, b1⟩
    go_wp2_with fail
    go_ret
    exact ⟨rfl, b1⟩
  | true =>
    rw [hs] at S
    obtain ⟨hn, hx⟩ := (small_iff l).1 hs
    have hx' : ∀ x ∈ l, x.length ≤ 16384 := fun x hm => by have := hx x hm; omega
    have Q := Lib.hid (fjoin_any v l (by omega) hx' w h)
    have R := Lib.hid (fun w1 (b : Below w.heap.size w w1) => rjoin_any v l (by omega) hx' w1 (h.below b))
    generalize str (joinR l).1 = q at Q R
    generalize (joinR l).2 = x at Q R
    clear hs h hx hx'
    go_enter Tryd.func6, Tryd.ntmps6
    go_wp2_with fail
    refine (S.out).mono ?_
    rintro e w' ⟨rfl, rfl⟩
    go_wp2_with fail
    refine (Q.out).mono ?_
    rintro e w1 ⟨rfl, b1⟩
    go_wp2_with fail
    refine (rel (W := w) (R.out _ b1) b1).mono ?_
    rintro e w2 ⟨rfl, b2⟩
    clear b1
    go_wp2_with fail
    refine (rel (W := w) (example_holds _) b2).mono ?_
    rintro e w3 ⟨rfl, b3⟩
    go_wp2_with fail
    go_ret
    exact ⟨rfl, b3⟩
theorem textR_ok (l : List (List UInt8)) (h : (textR l).2 = 0) : (textR l).1 = textL l ∧ linesR (textL l) = (l, 0) := by
  unfold textR at *
  cases hf : l.any fed with
  | true => rw [hf] at h; simp at h
  | false =>
    rw [hf] at h
    simp only [Bool.false_eq_true, if_false] at h ⊢
    by_cases h6 : 65536 < (textL l).length
    · rw [if_pos h6] at h; simp at h
    · rw [if_neg h6]
      refine ⟨rfl, ?_⟩
      unfold linesR
      rw [if_neg h6]
      have hno : ∀ x ∈ l, ∀ b ∈ x, b ≠ 10 := by
        intro x hx b hb e
        subst e
        have : l.any fed = true := by
          rw [List.any_eq_true]
          exact ⟨x, hx, by unfold fed; exact decide_eq_true hb⟩
        rw [hf] at this
        cases this
      by_cases h0 : l = []
      · subst h0
        rfl
      · have hne : textL l ≠ [] := fun e => h0 (text_nil l (by rw [e]; rfl))
        have hlast := text_end l h0
        rw [List.getLast?_eq_getElem?] at hlast
        rw [if_neg hne, if_pos hlast, lines_text l hno]
theorem textR_err (l : List (List UInt8)) : (textR l).2 = 0 ∨ (textR l).2 = 3 ∨ (textR l).2 = 5 := by
  unfold textR
  split
  · simp
  · split <;> simp
set_option maxHeartbeats 400000 in
theorem texts_law (v : Value) (l : List (List UInt8)) (hl : l.length ≤ 9223372036854775807) (w : World) (h : Lst w v l) : Calls Tryd.prog 9 #[v] w fun e w' => e = .returned (.bool true) ∧ Below w.heap.size w w' := by
  have S := Lib.hid (small_any v l hl w h)
  cases hs : smallB l with
  | false =>
    rw [hs] at S
    clear hs h
    go_enter Tryd.func9, Tryd.ntmps9
    go_wp2_with fail
    refine (S.out).mono ?_
    rintro e w' ⟨rfl, rfl⟩
    go_wp2_with fail
    refine (example_holds _).mono ?_
    rintro e w1 ⟨rfl, b1⟩
    go_wp2_with fail
    go_ret
    exact ⟨rfl, b1⟩
  | true =>
    rw [hs] at S
    obtain ⟨hn, hx⟩ := (small_iff l).1 hs
    have hx' : ∀ x ∈ l, x.length ≤ 16384 := fun x hm => by have := hx x hm; omega
    have Q := Lib.hid (ftext_any v l (by omega) hx' w h)
    have R := Lib.hid (fun w1 (b : Below w.heap.size w w1) => rtext_any v l (by omega) hx' w1 (h.below b))
    by_cases h0 : (textR l).2 = 0
    · obtain ⟨e1, e2⟩ := textR_ok l h0
      have htl := text_le 4096 l hx
      have hmul : l.length * (4096 + 1) ≤ 100 * 4097 := Nat.mul_le_mul_right _ hn
      rw [e1, h0] at Q R
      have L := Lib.hid (fun w => flines_any (str (textL l)) (by rw [size_str]; omega) w)
      rw [nil_str, e2] at L
      have HL := Lib.hid h
      generalize str (textL l) = q at Q R L
      clear hs h hx hx' h0 e1 e2 htl hmul
      go_enter Tryd.func9, Tryd.ntmps9
      go_wp2_with fail
      refine (S.out).mono ?_
      rintro e w' ⟨rfl, rfl⟩
      go_wp2_with fail
      refine (Q.out).mono ?_
      rintro e w1 ⟨rfl, b1⟩
      go_wp2_with fail
      refine (rel (W := w) (R.out _ b1) b1).mono ?_
      rintro e w2 ⟨rfl, b2⟩
      clear b1
      go_wp2_with fail
      refine (L.out _).mono ?_
      rintro e w3 ⟨v3, rfl, o3, b3'⟩
      have b3 := b2.trans (b3'.mono b2.size)
      have T := Lib.hid (same_any v3 v l l hl w3 o3.lst (HL.out.below b3))
      rw [decide_eq_true rfl] at T
      clear b2 b3' o3
      go_wp2_with fail
      refine (rel (W := w) T.out b3).mono ?_
      rintro e w4 ⟨rfl, b4⟩
      clear b3
      go_wp2_with fail
      refine (rel (W := w) (example_holds _) b4).mono ?_
      rintro e w5 ⟨rfl, b5⟩
      go_wp2_with fail
      go_ret
      exact ⟨rfl, b5⟩
    · have q0 : ((textR l).2 != 0) = true := bne_true h0
      generalize str (textR l).1 = q at Q R
      generalize (textR l).2 = x at Q R q0 h0
      clear hs h hx hx' h0
      go_enter Tryd.func9, Tryd.ntmps9
      go_wp2_with fail
      refine (S.out).mono ?_
      rintro e w' ⟨rfl, rfl⟩
      go_wp2_with fail
      refine (Q.out).mono ?_
      rintro e w1 ⟨rfl, b1⟩
      go_wp2_with fail
      refine (rel (W := w) (R.out _ b1) b1).mono ?_
      rintro e w2 ⟨rfl, b2⟩
      clear b1
      go_wp2_with fail
      refine (rel (W := w) (example_holds _) b2).mono ?_
      rintro e w3 ⟨rfl, b3⟩
      go_wp2_with fail
      go_ret
      exact ⟨rfl, b3⟩
end Go.Proofs.YtpdekihfgglmkaaDoor
