/-
  Three of package field's nine statements: each call returns true; nothing that existed before the call has changed behind it. Condition: none beyond each theorem's own hypotheses.
-/
import Derived.Test.YtpdekihfgglmkaaDoorFLaws2
namespace Go.Proofs.YtpdekihfgglmkaaDoor
open Go.RowKit

/-! ### FieldSafe -/
theorem unqR_quote (l : List UInt8) : unqR (quoteL l) = (l, 0) := by unfold unqR; rw [unq_quote]
theorem splitR_quote (l : List UInt8) (h : l.length ≤ 16383) : splitR (quoteL l) = ([l], 0) := by
  have hq := quote_le l
  unfold splitR
  rw [if_neg (by omega), if_neg (quote_ne l)]
  exact split_line [l] 64 (by simp) (by simp)
theorem safe_byte (l : List UInt8) (k : Nat) (c : UInt8) (h : (quoteL l)[k]? = some c) : ¬ (c.toNat < 32 ∨ c.toNat = 127) := by
  have ha := quote_ctl l
  rw [List.all_eq_true] at ha
  have := ha c (List.mem_iff_getElem?.2 ⟨k, h⟩)
  intro hc
  rw [(ctl_iff c).2 hc] at this
  cases this
set_option maxHeartbeats 1000000 in
theorem safe_law (s : ByteArray) (w : World) : Calls Tryd.prog 5 #[.string s] w fun e w' => e = .returned (.bool true) ∧ Below w.heap.size w w' := by
  by_cases h : 4096 < s.size
  · have g : (4096 : Int) < (s.size : Int) := by omega
    clear h
    go_enter Tryd.func5, Tryd.ntmps5
    go_wp2_with fail
    refine (example_holds _).mono ?_
    rintro e w1 ⟨rfl, b1⟩
    go_wp2_with fail
    go_ret
    exact ⟨rfl, b1⟩
  · have g : decide ((4096 : Int) < (s.size : Int)) = false := by simp; omega
    have hz := sz_list s
    have Q := Lib.hid (fun w => fquote_any s (by omega) w)
    have hql := quote_le s.data.toList
    obtain ⟨q, hq, hqz, hqs⟩ := as_str (quoteL s.data.toList)
    rw [hqs] at Q
    have U := Lib.hid (fun w => funq_any q (by omega) w)
    rw [hq, unqR_quote, str_list] at U
    have P := Lib.hid (fun w => fsplit_any q (by omega) w)
    rw [hq, splitR_quote _ (by omega)] at P
    have HQ := Lib.hid hq
    have hq5 : q.size ≤ 65536 := by omega
    clear h hz hql hqz hqs hq
    go_enter Tryd.func5, Tryd.ntmps5
    go_wp2_with fail
    refine (Q.out _).mono ?_
    rintro e w1 ⟨rfl, b1⟩
    have B1 := Lib.hid b1
    clear b1
    go_wp2_with fail
    go_loop [4] (fun i => ∃ k : Nat, i = .int .i64 k ∧ k ≤ q.size) (fun i => q.size - (intOf i).toNat)
    case atStart => exact ⟨0, rfl, Nat.zero_le _⟩
    case round =>
      obtain ⟨k, rfl, hk⟩ := hrel
      by_cases hlt : k < q.size
      · obtain ⟨c, hc⟩ := get_at' q k hlt
        have k1 := fun W => at_run q k c hc k rfl W
        have hs := safe_byte s.data.toList k c (by rw [← HQ.out]; exact hc)
        have d1 : decide ((c.toNat : Int) < 32) = false := by simp; omega
        have d2 : ((c.toNat : Int) == 127) = false := beq_false (by omega)
        clear hc hs
        go_wp2_with fail
        go_round
        case rel => exact ⟨k + 1, by go_num, by omega⟩
        case measure => simp [intOf]; omega
      · have d : decide (k < q.size) = false := by rw [decide_eq_false_iff_not]; exact hlt
        clear hlt
        go_wp2_with fail
        refine (rel (W := w) (U.out _) B1.out).mono ?_
        rintro e w2 ⟨rfl, b2⟩
        go_wp2_with fail
        refine (P.out _).mono ?_
        rintro e w3 ⟨v3, rfl, o3, b3'⟩
        have b3 := b2.trans (b3'.mono b2.size)
        obtain ⟨A, c, hv, _, hcell⟩ := o3.lst
        obtain ⟨b, o, hA, hb, hx⟩ := hcell (by simp)
        have m1 := hx 0 (.string (str s.data.toList)) rfl
        rw [str_list, Nat.add_zero] at m1
        subst hA
        subst hv
        clear hx hcell o3 b3' b2
        go_wp2_with fail
        refine (rel (W := w) (example_holds _) b3).mono ?_
        rintro e w4 ⟨rfl, b4⟩
        go_wp2_with fail
        go_ret
        exact ⟨rfl, b4⟩

/-! ### FieldRoundTrip -/
theorem split_nil : splitR [] = ([], 0) := rfl
theorem joinR_split (l : List (List UInt8)) (h : (joinR l).2 = 0) : (joinR l).1 = lineL l ∧ splitR (lineL l) = (l, 0) := by
  unfold joinR at *
  by_cases h64 : 64 < l.length
  · rw [if_pos h64] at h; simp at h
  · rw [if_neg h64] at h ⊢
    by_cases h6 : 65536 < (lineL l).length
    · rw [if_pos h6] at h; simp at h
    · rw [if_neg h6]
      refine ⟨rfl, ?_⟩
      by_cases h0 : l = []
      · subst h0; rfl
      · unfold splitR
        have hne : lineL l ≠ [] := by
          intro e
          cases l with
          | nil => exact h0 rfl
          | cons x r =>
            cases r with
            | nil => exact quote_ne x e
            | cons y r =>
              have e2 : lineL (x :: y :: r) = quoteL x ++ 44 :: lineL (y :: r) := rfl
              rw [e2] at e
              simp at e
        rw [if_neg h6, if_neg hne]
        exact split_line l 64 h0 (by omega)
theorem joinR_bad (l : List (List UInt8)) (h : (joinR l).2 ≠ 0) : (joinR l).1 = [] := by
  unfold joinR at *
  split
  · rfl
  · next h1 =>
    rw [if_neg h1] at h
    split
    · rfl
    · next h2 => rw [if_neg h2] at h; exact absurd rfl h
theorem mem_line : ∀ (l : List (List UInt8)) (x : List UInt8), x ∈ l → x.length ≤ (lineL l).length
  | [], x, h => by cases h
  | [y], x, h => by
    rw [List.mem_singleton.1 h]
    exact quote_ge y
  | y :: z :: l, x, h => by
    have e2 : lineL (y :: z :: l) = quoteL y ++ 44 :: lineL (z :: l) := rfl
    rw [e2, List.length_append, List.length_cons]
    rcases List.mem_cons.1 h with rfl | h
    · have := quote_ge x
      omega
    · have := mem_line (z :: l) x h
      omega
theorem splitR_good (l : List UInt8) (h : (splitR l).2 = 0) : lineL (splitR l).1 = l ∧ (splitR l).1.length ≤ 64 := by
  unfold splitR at *
  by_cases h6 : 65536 < l.length
  · rw [if_pos h6] at h; simp at h
  · rw [if_neg h6] at h ⊢
    by_cases h0 : l = []
    · rw [if_pos h0]
      exact ⟨h0.symm, by simp⟩
    · rw [if_neg h0] at h ⊢
      obtain ⟨i1, i2, i3⟩ := line_split 64 l (splitL 64 l).1 (by rw [← h])
      exact ⟨i1, i3⟩
theorem splitR_bad (l : List UInt8) (h : (splitR l).2 ≠ 0) : (splitR l).1 = [] := by
  unfold splitR at *
  split
  · rfl
  · next h1 =>
    rw [if_neg h1] at h
    split
    · rfl
    · next h2 =>
      rw [if_neg h2] at h
      rcases split_err 64 l with h3 | h3
      · exact absurd h3 h
      · exact h3.1
theorem joinR_good (l : List UInt8) (hl : l.length ≤ 65536) (h : (splitR l).2 = 0) : joinR (splitR l).1 = (l, 0) := by
  obtain ⟨h1, h2⟩ := splitR_good l h
  unfold joinR
  rw [if_neg (by omega), h1, if_neg (by omega)]
set_option maxHeartbeats 2000000 in
theorem round_law (v : Value) (l : List (List UInt8)) (hl : l.length ≤ 9223372036854775807) (s : ByteArray) (w : World) (h : Lst w v l) : Calls Tryd.prog 10 #[v, .string s] w fun e w' => e = .returned (.bool true) ∧ Below w.heap.size w w' := by
  have S := Lib.hid (small_any v l hl w h)
  cases hs : smallB l with
  | false =>
    rw [hs] at S
    clear hs h
    go_enter Tryd.func10, Tryd.ntmps10
    go_wp2_with fail
    refine (S.out).mono ?_
    rintro e w' ⟨rfl, rfl⟩
    go_wp2_with fail
    refine (example_holds _).mono ?_
    rintro e w1 ⟨rfl, b1⟩
    go_wp2_with fail
    go_ret
    exact ⟨rfl, b1⟩
  | true =>
    rw [hs] at S
    by_cases hz : 16384 < s.size
    · have g : (16384 : Int) < (s.size : Int) := by omega
      clear hs h hz
      go_enter Tryd.func10, Tryd.ntmps10
      go_wp2_with fail
      refine (S.out).mono ?_
      rintro e w' ⟨rfl, rfl⟩
      go_wp2_with fail
      refine (example_holds _).mono ?_
      rintro e w1 ⟨rfl, b1⟩
      go_wp2_with fail
      go_ret
      exact ⟨rfl, b1⟩
    have g : decide ((16384 : Int) < (s.size : Int)) = false := by simp; omega
    have hzl := sz_list s
    obtain ⟨hn, hx⟩ := (small_iff l).1 hs
    have hx' : ∀ x ∈ l, x.length ≤ 16384 := fun x hm => by have := hx x hm; omega
    have Q := Lib.hid (fjoin_any v l (by omega) hx' w h)
    -- the second half: the line that came in
    have P2 := Lib.hid (fun w => fsplit_any s (by omega) w)
    have hm16 : ∀ x ∈ (splitR s.data.toList).1, x.length ≤ 16384 := by
      intro x hxm
      by_cases h0 : (splitR s.data.toList).2 = 0
      · have h1 := (splitR_good _ h0).1
        have := mem_line _ x hxm
        rw [h1, hzl] at this
        omega
      · rw [splitR_bad _ h0] at hxm
        cases hxm
    have hm64 : (splitR s.data.toList).1.length ≤ 64 := by
      by_cases h0 : (splitR s.data.toList).2 = 0
      · exact (splitR_good _ h0).2
      · rw [splitR_bad _ h0]; simp
    have J2 := Lib.hid (fun (u : Value) (w1 : World) (hu : Lst w1 u (splitR s.data.toList).1) => fjoin_any u _ (by omega) hm16 w1 hu)
    have hbits : Hid (((splitR s.data.toList).2 != 0) = true ∨ ((splitR s.data.toList).2 = 0 ∧ joinR (splitR s.data.toList).1 = (s.data.toList, 0))) := by
      show _ ∨ _
      by_cases h0 : (splitR s.data.toList).2 = 0
      · exact Or.inr ⟨h0, joinR_good _ (by omega) h0⟩
      · exact Or.inl (bne_true h0)
    generalize hr2 : splitR s.data.toList = r2 at P2 J2 hbits
    clear hr2 hm16 hm64 hzl hz
    -- the first half
    have first : Hid (∃ (t : ByteArray) (x : Int) (r1 : List (List UInt8) × Int), str (joinR l).1 = t ∧ (joinR l).2 = x ∧ splitR t.data.toList = r1 ∧ t.size ≤ 65536 ∧ ((x == 0) = false ∨ (x = 0 ∧ r1 = (l, 0)))) := by
      refine ⟨str (joinR l).1, (joinR l).2, splitR (joinR l).1, rfl, rfl, rfl, ?_, ?_⟩
      · rw [size_str]
        unfold joinR
        split
        · simp
        · split
          · simp
          · show (lineL l).length ≤ _
            omega
      · by_cases h0 : (joinR l).2 = 0
        · obtain ⟨e1, e2⟩ := joinR_split l h0
          exact Or.inr ⟨h0, by rw [e1, e2]⟩
        · exact Or.inl (beq_false h0)
    obtain ⟨t, x, r1, e1, e2, e3, ht, hway⟩ := first.out
    rw [e1, e2] at Q
    have P1 := Lib.hid (fun w => fsplit_any t (by omega) w)
    rw [e3] at P1
    have HL := Lib.hid h
    clear hs h hx hx' first e1 e2 e3
    have endgame : Hid (∀ (w2 : World) (b2 : Below w.heap.size w w2), ∀ (u : Value), Lst w2 u r2.1 → Calls Tryd.prog 19 #[u] w2 fun e w' => e = .returned (.tuple #[.string (str (joinR r2.1).1), .int .i64 (joinR r2.1).2]) ∧ Below w.heap.size w w') := by
      intro w2 b2 u hu
      exact rel (J2.out u w2 hu) b2
    clear J2
    rcases hway with hway | ⟨rfl, rfl⟩
    · go_enter Tryd.func10, Tryd.ntmps10
      go_wp2_with fail
      refine (S.out).mono ?_
      rintro e w' ⟨rfl, rfl⟩
      go_wp2_with fail
      refine (Q.out).mono ?_
      rintro e w1 ⟨rfl, b1⟩
      go_wp2_with fail
      refine (P1.out _).mono ?_
      rintro e w2 ⟨v2, rfl, o2, b2'⟩
      have b2 := b1.trans (b2'.mono b1.size)
      clear b1 b2' o2
      go_wp2_with fail
      refine (P2.out _).mono ?_
      rintro e w3 ⟨v3, rfl, o3, b3'⟩
      have b3 := b2.trans (b3'.mono b2.size)
      have E := Lib.hid (endgame.out w3 b3 v3 o3.lst)
      clear b2 b3' o3 b3
      rcases hbits.out with hb | ⟨hb1, hb2⟩
      · generalize r2.2 = y at *
        generalize joinR r2.1 = z at *
        go_wp2_with fail
        refine (E.out).mono ?_
        rintro e w4 ⟨rfl, b4⟩
        go_wp2_with fail
        refine (rel (W := w) (example_holds _) b4).mono ?_
        rintro e w5 ⟨rfl, b5⟩
        go_wp2_with fail
        go_ret
        exact ⟨rfl, b5⟩
      · rw [hb2, str_list] at E
        rw [hb1]
        clear hb1 hb2
        go_wp2_with fail
        refine (E.out).mono ?_
        rintro e w4 ⟨rfl, b4⟩
        go_wp2_with fail
        refine (rel (W := w) (example_holds _) b4).mono ?_
        rintro e w5 ⟨rfl, b5⟩
        go_wp2_with fail
        go_ret
        exact ⟨rfl, b5⟩
    · go_enter Tryd.func10, Tryd.ntmps10
      go_wp2_with fail
      refine (S.out).mono ?_
      rintro e w' ⟨rfl, rfl⟩
      go_wp2_with fail
      refine (Q.out).mono ?_
      rintro e w1 ⟨rfl, b1⟩
      go_wp2_with fail
      refine (P1.out _).mono ?_
      rintro e w2 ⟨v2, rfl, o2, b2'⟩
      have b2 := b1.trans (b2'.mono b1.size)
      have T := Lib.hid (same_any v2 v l l hl w2 o2.lst (HL.out.below b2))
      rw [decide_eq_true rfl] at T
      clear b1 b2' o2
      go_wp2_with fail
      refine (rel (W := w) T.out b2).mono ?_
      rintro e w2' ⟨rfl, b2'⟩
      clear b2
      go_wp2_with fail
      refine (P2.out _).mono ?_
      rintro e w3 ⟨v3, rfl, o3, b3'⟩
      have b3 := b2'.trans (b3'.mono b2'.size)
      have E := Lib.hid (endgame.out w3 b3 v3 o3.lst)
      clear b2' b3' o3 b3
      rcases hbits.out with hb | ⟨hb1, hb2⟩
      · generalize r2.2 = y at *
        generalize joinR r2.1 = z at *
        go_wp2_with fail
        refine (E.out).mono ?_
        rintro e w4 ⟨rfl, b4⟩
        go_wp2_with fail
        refine (rel (W := w) (example_holds _) b4).mono ?_
        rintro e w5 ⟨rfl, b5⟩
        go_wp2_with fail
        go_ret
        exact ⟨rfl, b5⟩
      · rw [hb2, str_list] at E
        rw [hb1]
        clear hb1 hb2
        go_wp2_with fail
        refine (E.out).mono ?_
        rintro e w4 ⟨rfl, b4⟩
        go_wp2_with fail
        refine (rel (W := w) (example_holds _) b4).mono ?_
        rintro e w5 ⟨rfl, b5⟩
        go_wp2_with fail
        go_ret
        exact ⟨rfl, b5⟩
end Go.Proofs.YtpdekihfgglmkaaDoor
