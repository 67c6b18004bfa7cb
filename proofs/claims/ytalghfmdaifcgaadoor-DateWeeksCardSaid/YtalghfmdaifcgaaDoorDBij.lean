/-
  The law DateBijection answers true for every input; nothing that existed before the call has changed behind it. Condition: the tables hold what their initialisers lay; no integer is beyond the greatest int.
-/
import Derived.Test.YtalghfmdaifcgaaDoorDLaws
namespace Go.Proofs.YtalghfmdaifcgaaDoor
open Go.RowKit

set_option maxHeartbeats 4000000 in
theorem texts_core (day at_ : Int) (s a b a3 b4 : ByteArray) (e k1 f1 e2 k2 f2 k3 e3 f3 k4 e4 f4 : Int)
    (h1 : (e == 0) = false ∨ e = 0 ∧ f1 = 0 ∧ k1 = day) (h2 : (e2 == 0) = false ∨ e2 = 0 ∧ f2 = 0 ∧ k2 = at_)
    (h3 : (e3 == 0) = false ∨ e3 = 0 ∧ f3 = 0 ∧ a3 = s) (h4 : (e4 != 0) = true ∨ e4 = 0 ∧ f4 = 0 ∧ b4 = s)
    (c1 : ∀ w : World, Good w → Calls Tryd.prog 27 #[.int .i64 day] w fun r w' => r = .returned (.tuple #[.string a, .int .i64 e]) ∧ Below w.heap.size w w')
    (c2 : ∀ w : World, Good w → Calls Tryd.prog 29 #[.string a] w fun r w' => r = .returned (.tuple #[.int .i64 k1, .int .i64 f1]) ∧ Below w.heap.size w w')
    (c3 : ∀ w : World, Good w → Calls Tryd.prog 35 #[.int .i64 at_] w fun r w' => r = .returned (.tuple #[.string b, .int .i64 e2]) ∧ Below w.heap.size w w')
    (c4 : ∀ w : World, Good w → Calls Tryd.prog 37 #[.string b] w fun r w' => r = .returned (.tuple #[.int .i64 k2, .int .i64 f2]) ∧ Below w.heap.size w w')
    (c5 : ∀ w : World, Good w → Calls Tryd.prog 29 #[.string s] w fun r w' => r = .returned (.tuple #[.int .i64 k3, .int .i64 e3]) ∧ Below w.heap.size w w')
    (c6 : ∀ w : World, Good w → Calls Tryd.prog 27 #[.int .i64 k3] w fun r w' => r = .returned (.tuple #[.string a3, .int .i64 f3]) ∧ Below w.heap.size w w')
    (c7 : ∀ w : World, Good w → Calls Tryd.prog 37 #[.string s] w fun r w' => r = .returned (.tuple #[.int .i64 k4, .int .i64 e4]) ∧ Below w.heap.size w w')
    (c8 : ∀ w : World, Good w → Calls Tryd.prog 35 #[.int .i64 k4] w fun r w' => r = .returned (.tuple #[.string b4, .int .i64 f4]) ∧ Below w.heap.size w w') (w : World) (hg : Good w) :
    Calls Tryd.prog 39 #[.int .i64 day, .int .i64 at_, .string s] w fun r w' => r = .returned (.bool true) ∧ Below w.heap.size w w' := by
  have C1 := Lib.hid c1
  have C2 := Lib.hid c2
  have C3 := Lib.hid c3
  have C4 := Lib.hid c4
  have C5 := Lib.hid c5
  have C6 := Lib.hid c6
  have C7 := Lib.hid c7
  have C8 := Lib.hid c8
  clear c1 c2 c3 c4 c5 c6 c7 c8
  rcases h1 with h1 | ⟨rfl, rfl, rfl⟩
  all_goals
    rcases h2 with h2 | ⟨rfl, rfl, rfl⟩
  all_goals
    rcases h3 with h3 | ⟨rfl, rfl, rfl⟩
  all_goals
    rcases h4 with h4 | ⟨rfl, rfl, rfl⟩
  all_goals
    go_enter Tryd.func39, Tryd.ntmps39
    go_wp2_with fail
    refine (C1.out _ hg).mono ?_
    rintro r w1 ⟨rfl, b1⟩
    go_wp2_with fail
    refine (rel (W := w) (C2.out _ (hg.below b1)) b1).mono ?_
    rintro r w2 ⟨rfl, b2⟩
    clear b1
    go_wp2_with fail
    refine (rel (W := w) (C3.out _ (hg.below b2)) b2).mono ?_
    rintro r w3 ⟨rfl, b3⟩
    clear b2
    go_wp2_with fail
    refine (rel (W := w) (C4.out _ (hg.below b3)) b3).mono ?_
    rintro r w4 ⟨rfl, b4⟩
    clear b3
    go_wp2_with fail
    refine (rel (W := w) (C5.out _ (hg.below b4)) b4).mono ?_
    rintro r w5 ⟨rfl, b5⟩
    clear b4
    go_wp2_with fail
    refine (rel (W := w) (C6.out _ (hg.below b5)) b5).mono ?_
    rintro r w6 ⟨rfl, b6⟩
    clear b5
    go_wp2_with fail
    refine (rel (W := w) (C7.out _ (hg.below b6)) b6).mono ?_
    rintro r w7 ⟨rfl, b7⟩
    clear b6
    go_wp2_with fail
    refine (rel (W := w) (C8.out _ (hg.below b7)) b7).mono ?_
    rintro r w8 ⟨rfl, b8⟩
    go_wp2_with fail
    go_ret
    exact ⟨rfl, b8⟩

theorem str_list (s : ByteArray) : str s.data.toList = s := rfl
/-- A day's text is read back. -/
theorem back1 (day : Int) : ∃ (a : ByteArray) (e k1 f1 : Int), ((e == 0) = false ∨ e = 0 ∧ f1 = 0 ∧ k1 = day) ∧
    (∀ w : World, Good w → Calls Tryd.prog 27 #[.int .i64 day] w fun r w' => r = .returned (.tuple #[.string a, .int .i64 e]) ∧ Below w.heap.size w w') ∧
    ∀ w : World, Good w → Calls Tryd.prog 29 #[.string a] w fun r w' => r = .returned (.tuple #[.int .i64 k1, .int .i64 f1]) ∧ Below w.heap.size w w' := by
  by_cases h : 0 ≤ day ∧ day ≤ 36524
  · obtain ⟨n, rfl⟩ : ∃ k : Nat, day = k := ⟨day.toNat, by omega⟩
    obtain ⟨i, hi, hm⟩ := month_day n (by omega)
    have hp := fun w hg => dparse_any (str (dText i n)) w hg
    rw [show (str (dText i n)).data.toList = dText i n from rfl, day_there i n hi hm] at hp
    exact ⟨_, _, _, _, Or.inr ⟨rfl, rfl, rfl⟩, dformat_yes i n hi hm, hp⟩
  · exact ⟨_, _, _, _, Or.inl rfl, fun w _ => still (dformat_no day (by omega) w), fun w hg => dparse_any _ w hg⟩
/-- A moment's text is read back. -/
theorem back2 (a : Int) (ha : a ≤ 9223372036854775807) : ∃ (b : ByteArray) (e k f : Int), ((e == 0) = false ∨ e = 0 ∧ f = 0 ∧ k = a) ∧
    (∀ w : World, Good w → Calls Tryd.prog 35 #[.int .i64 a] w fun r w' => r = .returned (.tuple #[.string b, .int .i64 e]) ∧ Below w.heap.size w w') ∧
    ∀ w : World, Good w → Calls Tryd.prog 37 #[.string b] w fun r w' => r = .returned (.tuple #[.int .i64 k, .int .i64 f]) ∧ Below w.heap.size w w' := by
  by_cases h : 0 ≤ a ∧ a / 86400 ≤ 36524
  · obtain ⟨n, hn⟩ : ∃ k : Nat, a / 86400 = k := ⟨(a / 86400).toNat, by omega⟩
    obtain ⟨i, hi, hm⟩ := month_day n (by omega)
    have hp := fun w hg => dmom_any (mText i n (a % 86400)) w hg
    rw [mom_there i n _ hi hm (by omega) (by omega), show (n : Int) * 86400 + a % 86400 = a by omega] at hp
    exact ⟨_, _, _, _, Or.inr ⟨rfl, rfl, rfl⟩, fmtMom_yes a i n h.1 hn hi hm, hp⟩
  · exact ⟨_, _, _, _, Or.inl rfl, fun w _ => still (fmtMom_no a ha (by omega) w), fun w hg => dmom_any [] w hg⟩
/-- An accepted day's text is that of its result. -/
theorem back3 (s : ByteArray) : ∃ (a : ByteArray) (k e f : Int), ((e == 0) = false ∨ e = 0 ∧ f = 0 ∧ a = s) ∧
    (∀ w : World, Good w → Calls Tryd.prog 29 #[.string s] w fun r w' => r = .returned (.tuple #[.int .i64 k, .int .i64 e]) ∧ Below w.heap.size w w') ∧
    ∀ w : World, Good w → Calls Tryd.prog 27 #[.int .i64 k] w fun r w' => r = .returned (.tuple #[.string a, .int .i64 f]) ∧ Below w.heap.size w w' := by
  by_cases h : (dayR s.data.toList).2 = 0
  · obtain ⟨i, n, hi, hm, hr, ht⟩ := date_back _ h
    have hp := fun w hg => dparse_any s w hg
    rw [hr] at hp
    have hf := fun w hg => dformat_yes i n hi hm w hg
    rw [ht, str_list] at hf
    exact ⟨_, _, _, _, Or.inr ⟨rfl, rfl, rfl⟩, hp, hf⟩
  · obtain ⟨l, x, hf, -⟩ := format_is (dayR s.data.toList).1
    exact ⟨_, _, _, _, Or.inl (beq_no h), fun w hg => dparse_any s w hg, hf⟩
/-- An accepted moment's text is that of its result. -/
theorem back4 (s : ByteArray) : ∃ (a : ByteArray) (k e f : Int), ((e != 0) = true ∨ e = 0 ∧ f = 0 ∧ a = s) ∧
    (∀ w : World, Good w → Calls Tryd.prog 37 #[.string s] w fun r w' => r = .returned (.tuple #[.int .i64 k, .int .i64 e]) ∧ Below w.heap.size w w') ∧
    ∀ w : World, Good w → Calls Tryd.prog 35 #[.int .i64 k] w fun r w' => r = .returned (.tuple #[.string a, .int .i64 f]) ∧ Below w.heap.size w w' := by
  by_cases h : (momR s.data.toList).2 = 0
  · obtain ⟨i, n, t, hi, hm, t0, t1, hr, ht⟩ := mom_back _ h
    have hp := fun w hg => dmom_any s.data.toList w hg
    rw [hr] at hp
    have hf := fun w hg => fmtMom_yes ((n : Int) * 86400 + t) i n (by omega) (by omega) hi hm w hg
    rw [show ((n : Int) * 86400 + t) % 86400 = t by omega, ht, str_list] at hf
    exact ⟨_, _, _, _, Or.inr ⟨rfl, rfl, rfl⟩, hp, hf⟩
  · have hk : (momR s.data.toList).1 = 0 := by
      unfold momR at h ⊢
      split
      · rename_i c
        rw [if_pos c] at h
        split
        · rename_i c2
          rw [if_pos c2] at h
          split
          · rename_i c3
            rw [if_pos c3] at h
            exact absurd rfl h
          · rfl
        · rfl
      · rfl
    obtain ⟨l, x, hf, -⟩ := fmtMom_is 0 (by decide)
    have hp := fun w hg => dmom_any s.data.toList w hg
    rw [hk] at hp
    exact ⟨_, _, _, _, Or.inl (bne_true h), hp, hf⟩
theorem texts_true (day a : Int) (ha : a ≤ 9223372036854775807) (s : ByteArray) (w : World) (hg : Good w) :
    Calls Tryd.prog 39 #[.int .i64 day, .int .i64 a, .string s] w fun r w' => r = .returned (.bool true) ∧ Below w.heap.size w w' := by
  obtain ⟨a1, e1, k1, f1, h1, c1, c2⟩ := back1 day
  obtain ⟨a2, e2, k2, f2, h2, c3, c4⟩ := back2 a ha
  obtain ⟨a3, k3, e3, f3, h3, c5, c6⟩ := back3 s
  obtain ⟨a4, k4, e4, f4, h4, c7, c8⟩ := back4 s
  exact texts_core day a s a1 a2 a3 a4 e1 k1 f1 e2 k2 f2 k3 e3 f3 k4 e4 f4 h1 h2 h3 h4 c1 c2 c3 c4 c5 c6 c7 c8 w hg

/-- Civil and FromCivil one after the other. -/
theorem civ_back (n : Int) : ∃ (y m d k : Int) (ok is : Bool), (ok = false ∨ ok = true ∧ is = true ∧ k = n) ∧
    (∀ w : World, Good w → Calls Tryd.prog 23 #[.int .i64 n] w fun r w' => r = .returned (.tuple #[.int .i64 y, .int .i64 m, .int .i64 d, .bool ok]) ∧ w = w') ∧
    (∀ w : World, Good w → Calls Tryd.prog 21 #[.int .i64 y, .int .i64 m, .int .i64 d] w fun r w' => r = .returned (.tuple #[.int .i64 k, .bool is]) ∧ w = w') ∧
    ∀ w : World, Calls Tryd.prog 16 #[.int .i64 n] w fun r w' => r = .returned (.bool ok) ∧ w = w' := by
  by_cases h : 0 ≤ n ∧ n ≤ 36524
  · obtain ⟨x, rfl⟩ : ∃ k : Nat, n = k := ⟨n.toNat, by omega⟩
    obtain ⟨i, hi, hm⟩ := month_day x (by omega)
    obtain ⟨hd, he⟩ := in_date i x hi hm
    have hf := fun w hg => fromCivil_yes _ _ _ hd w hg
    rw [he] at hf
    exact ⟨_, _, _, _, true, true, Or.inr ⟨rfl, rfl, rfl⟩, civil_yes i x hi hm, hf, dvalid_yes _ h.1 h.2⟩
  · obtain ⟨k, b, hf, -⟩ := fromCivil_is 0 0 0
    exact ⟨0, 0, 0, k, false, b, Or.inl rfl, fun w _ => civil_no n (by omega) w, hf, dvalid_no n (by omega)⟩
theorem back_civ (y m d : Int) : ∃ (k y2 m2 d2 : Int) (ok is : Bool), (ok = false ∨ ok = true ∧ is = true ∧ y2 = y ∧ m2 = m ∧ d2 = d) ∧
    (∀ w : World, Good w → Calls Tryd.prog 21 #[.int .i64 y, .int .i64 m, .int .i64 d] w fun r w' => r = .returned (.tuple #[.int .i64 k, .bool ok]) ∧ w = w') ∧
    ∀ w : World, Good w → Calls Tryd.prog 23 #[.int .i64 k] w fun r w' => r = .returned (.tuple #[.int .i64 y2, .int .i64 m2, .int .i64 d2, .bool is]) ∧ w = w' := by
  by_cases h : IsDate y m d
  · obtain ⟨hi, n, hn, hm, hk⟩ := date_in y m d h
    have hf := fun w hg => fromCivil_yes y m d h w hg
    rw [hn] at hf
    have hc := fun w hg => civil_yes _ n hi hm w hg
    obtain ⟨p1, p2, p3, p4, p5, p6⟩ := h
    refine ⟨_, _, _, _, true, true, Or.inr ⟨rfl, rfl, ?_, ?_, ?_⟩, hf, hc⟩
    · unfold monOf; omega
    · unfold monOf; omega
    · omega
  · obtain ⟨y2, m2, d2, b, hc, -⟩ := civil_is 0
    exact ⟨0, y2, m2, d2, false, b, Or.inl rfl, fun w hg => fromCivil_no y m d h w hg, hc⟩
end Go.Proofs.YtalghfmdaifcgaaDoor
