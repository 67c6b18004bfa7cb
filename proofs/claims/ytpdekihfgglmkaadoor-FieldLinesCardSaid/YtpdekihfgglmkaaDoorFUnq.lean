/-
  Unquote of package field and of its reference: what each call answers; nothing that existed before the call has changed behind it. Condition: a string of at most 2^40 bytes.
-/
import Derived.Test.YtpdekihfgglmkaaDoorFRead
namespace Go.Proofs.YtpdekihfgglmkaaDoor
open Go.RowKit

/-- What Unquote answers: the string and the number of the error. -/
def unqR (s : List UInt8) : List UInt8 × Int := match unq s with
  | some t => (t, 0)
  | none => ([], 3)
theorem unqR_yes (s : List UInt8) (h : quoteL (guessL s) = s) : unqR s = (guessL s, 0) := by unfold unqR; rw [unq_guess, if_pos h]
theorem unqR_no (s : List UInt8) (h : quoteL (guessL s) ≠ s) : unqR s = ([], 3) := by unfold unqR; rw [unq_guess, if_neg h]
theorem bytes_ne {a b : ByteArray} (h : a ≠ b) : (a.toList == b.toList) = false := by
  rw [beq_eq_false_iff_ne, Lib.toList_data, Lib.toList_data]
  intro e
  apply h
  rw [← str_list a, ← str_list b, e]
theorem bytes_eq {a b : ByteArray} (h : a = b) : (a.toList == b.toList) = true := by rw [h]; simp
theorem ret_unq {a b : ByteArray} {n m : Int} (h : a = b) (k : n = m) : Ending.returned (.tuple #[.string a, .int .i64 n]) = Ending.returned (.tuple #[.string b, .int .i64 m]) := by rw [h, k]
set_option maxHeartbeats 1000000 in
theorem funq_any (s : ByteArray) (hs : s.size ≤ 1099511627776) (w : World) : Calls Tryd.prog 15 #[.string s] w fun e w' => e = .returned (.tuple #[.string (str (unqR s.data.toList).1), .int .i64 ((unqR s.data.toList).2)]) ∧ Below w.heap.size w w' := by
  have hz := sz_list s
  by_cases hg : 2 ≤ s.size ∧ s.data.toList[0]? = some 34 ∧ s.data.toList[s.size - 1]? = some 34
  · obtain ⟨u, hu, huz, -⟩ := as_str ((s.data.toList.drop 1).take (s.size - 2))
    obtain ⟨t, ht, htz, hst⟩ := as_str (cutQ u.data.toList)
    have hG : guessL s.data.toList = t.data.toList := by unfold guessL; rw [hz, if_pos hg, ht, hu]
    have hgl := guess_le s.data.toList
    rw [hG, sz_list, sz_list] at hgl
    obtain ⟨q, hq⟩ : ∃ q, str (quoteL t.data.toList) = q := ⟨_, rfl⟩
    have k0 := fun W => at_run s 0 34 hg.2.1 0 rfl W
    have k1 := fun W => at_run s (s.size - 1) 34 hg.2.2 ((s.size : Int) - 1) (by have := hg.1; omega) W
    have k2 := fun W => sl_mid s u 1 (s.size - 1) (by have := hg.1; omega) (by omega) (by rw [hu, show s.size - 1 - 1 = s.size - 2 by omega]) 1 ((s.size : Int) - 1) rfl (by have := hg.1; omega) W
    have U := Lib.hid (fun w => unescaped_any u (by rw [huz, List.length_take]; omega) w)
    rw [hst] at U
    have Q := Lib.hid (fun w => fquote_any t (by omega) w)
    rw [hq] at Q
    have h2 := hg.1
    have g2 : 2 ≤ (s.size : Int) := by omega
    have g3 : 1 ≤ (s.size : Int) := by omega
    by_cases hqs : q = s
    · have R := Lib.hid (unqR_yes s.data.toList (by rw [hG, ← congrArg (·.data.toList) hqs, ← hq]))
      rw [hG] at R
      have ne := bytes_eq hqs
      clear hg hG hgl hq huz htz hst hu ht hz hqs
      go_enter Tryd.func15, Tryd.ntmps15
      go_wp2_with fail
      refine (U.out _).mono ?_
      rintro e w1 ⟨rfl, b1⟩
      go_wp2_with fail
      refine (rel (W := w) (Q.out _) b1).mono ?_
      rintro e w2 ⟨rfl, b2⟩
      clear b1
      go_wp2_with fail
      go_ret2
      exact ⟨ret_unq (by rw [R.out, str_list]) (by rw [R.out]), b2⟩
    · have R := Lib.hid (unqR_no s.data.toList (by rw [hG]; intro e; exact hqs (by rw [← hq, e, str_list])))
      have ne := bytes_ne hqs
      clear hg hG hgl hq huz htz hst hu ht hz hqs
      go_enter Tryd.func15, Tryd.ntmps15
      go_wp2_with fail
      refine (U.out _).mono ?_
      rintro e w1 ⟨rfl, b1⟩
      go_wp2_with fail
      refine (rel (W := w) (Q.out _) b1).mono ?_
      rintro e w2 ⟨rfl, b2⟩
      clear b1
      go_wp2_with fail
      go_ret2
      exact ⟨ret_unq (by rw [R.out]) (by rw [R.out]), b2⟩
  · have hG : guessL s.data.toList = s.data.toList := by unfold guessL; rw [hz, if_neg hg]
    obtain ⟨q, hq⟩ : ∃ q, str (quoteL s.data.toList) = q := ⟨_, rfl⟩
    have Q := Lib.hid (fun w => fquote_any s hs w)
    rw [hq] at Q
    -- the ways by which the test fails
    have hways : decide (2 ≤ (s.size : Int)) = false ∨ ∃ c : UInt8, s.data.toList[0]? = some c ∧ 2 ≤ s.size ∧ (((c.toNat : Int) == 34) = false ∨ ((c.toNat : Int) == 34) = true ∧ ∃ d : UInt8, s.data.toList[s.size - 1]? = some d ∧ ((d.toNat : Int) == 34) = false) := by
      by_cases h2 : 2 ≤ s.size
      · obtain ⟨c, hc⟩ := get_at' s 0 (by omega)
        obtain ⟨d, hd⟩ := get_at' s (s.size - 1) (by omega)
        refine Or.inr ⟨c, hc, h2, ?_⟩
        by_cases hc34 : c = 34
        · refine Or.inr ⟨by rw [hc34]; rfl, d, hd, beq_false (fun e => hg ⟨h2, by rw [hc, hc34], by rw [hd, UInt8.toNat_inj.1 (show d.toNat = (34 : UInt8).toNat by show _ = 34; omega)]⟩)⟩
        · exact Or.inl (beq_false (fun e => hc34 (UInt8.toNat_inj.1 (show c.toNat = (34 : UInt8).toNat by show _ = 34; omega))))
      · refine Or.inl ?_
        simp
        omega
    by_cases hqs : q = s
    · have R := Lib.hid (unqR_yes s.data.toList (by rw [hG]; exact congrArg (fun x : ByteArray => x.data.toList) (hq.trans hqs)))
      rw [hG] at R
      have ne := bytes_eq hqs
      clear hg hG hq hqs
      rcases hways with g1 | ⟨c, hc, h2, g1 | ⟨g1, d, hd, g3⟩⟩
      · clear hz
        go_enter Tryd.func15, Tryd.ntmps15
        go_wp2_with fail
        refine (Q.out _).mono ?_
        rintro e w1 ⟨rfl, b1⟩
        go_wp2_with fail
        go_ret2
        exact ⟨ret_unq (by rw [R.out, str_list]) (by rw [R.out]), b1⟩
      · have k0 := fun W => at_run s 0 c hc 0 rfl W
        have g2 : 2 ≤ (s.size : Int) := by omega
        clear hc hz
        go_enter Tryd.func15, Tryd.ntmps15
        go_wp2_with fail
        refine (Q.out _).mono ?_
        rintro e w1 ⟨rfl, b1⟩
        go_wp2_with fail
        go_ret2
        exact ⟨ret_unq (by rw [R.out, str_list]) (by rw [R.out]), b1⟩
      · have k0 := fun W => at_run s 0 c hc 0 rfl W
        have k1 := fun W => at_run s (s.size - 1) d hd ((s.size : Int) - 1) (by omega) W
        have g2 : 2 ≤ (s.size : Int) := by omega
        clear hc hd hz
        go_enter Tryd.func15, Tryd.ntmps15
        go_wp2_with fail
        refine (Q.out _).mono ?_
        rintro e w1 ⟨rfl, b1⟩
        go_wp2_with fail
        go_ret2
        exact ⟨ret_unq (by rw [R.out, str_list]) (by rw [R.out]), b1⟩
    · have R := Lib.hid (unqR_no s.data.toList (by rw [hG]; intro e; exact hqs (by rw [← hq, e, str_list])))
      have ne := bytes_ne hqs
      clear hg hG hq hqs
      rcases hways with g1 | ⟨c, hc, h2, g1 | ⟨g1, d, hd, g3⟩⟩
      · clear hz
        go_enter Tryd.func15, Tryd.ntmps15
        go_wp2_with fail
        refine (Q.out _).mono ?_
        rintro e w1 ⟨rfl, b1⟩
        go_wp2_with fail
        go_ret2
        exact ⟨ret_unq (by rw [R.out]) (by rw [R.out]), b1⟩
      · have k0 := fun W => at_run s 0 c hc 0 rfl W
        have g2 : 2 ≤ (s.size : Int) := by omega
        clear hc hz
        go_enter Tryd.func15, Tryd.ntmps15
        go_wp2_with fail
        refine (Q.out _).mono ?_
        rintro e w1 ⟨rfl, b1⟩
        go_wp2_with fail
        go_ret2
        exact ⟨ret_unq (by rw [R.out]) (by rw [R.out]), b1⟩
      · have k0 := fun W => at_run s 0 c hc 0 rfl W
        have k1 := fun W => at_run s (s.size - 1) d hd ((s.size : Int) - 1) (by omega) W
        have g2 : 2 ≤ (s.size : Int) := by omega
        clear hc hd hz
        go_enter Tryd.func15, Tryd.ntmps15
        go_wp2_with fail
        refine (Q.out _).mono ?_
        rintro e w1 ⟨rfl, b1⟩
        go_wp2_with fail
        go_ret2
        exact ⟨ret_unq (by rw [R.out]) (by rw [R.out]), b1⟩
end Go.Proofs.YtpdekihfgglmkaaDoor
