/-
  The functions of package clock and of its reference that write texts: what each call answers; nothing that existed before the call has changed behind it. Condition: the number is in the range that each theorem names.
-/
import Derived.Test.YtalghfmdaifcgaaDoorShelf
import Derived.Test.YtalghfmdaifcgaaDoorInts
import Derived.Test.YtalghfmdaifcgaaDoorTimes
import Derived.ShutString
namespace Go.Proofs.YtalghfmdaifcgaaDoor
open Go.RowKit

theorem two_len (x : Int) : (two x).length = 2 := rfl
theorem dec_len (x : Int) (h : x < 100) : (dec x).length ≤ 2 := by
  unfold dec
  by_cases h1 : x.toNat < 10
  · rw [Lib.decDigits_one h1]; simp
  · rw [Lib.decDigits_two h1 (by omega)]; simp
theorem two_le (x : Int) : (two x).length ≤ 100 := by rw [two_len]; decide
theorem dec_le (x : Int) (h : x < 100) : (dec x).length ≤ 100 := by have := dec_len x h; omega
theorem timeText_len (t : Int) : (timeText t).length = 8 := rfl
theorem two_data (x : Int) : (str (two x)).data.toList = two x := rfl
theorem join_flat (xs : List (List UInt8)) : Lib.join xs [] = xs.flatten := by
  simp [Lib.join, List.intercalate]
  induction xs with
  | nil => rfl
  | cons a t ih => cases t <;> simp_all [List.intersperse]

/-- concat: the texts of a slice, one after another. -/
theorem concat_any (bk c : Nat) (xs : List ByteArray) (w : World) (hcells : ∀ (j : Nat) x, xs[j]? = some x → w.cell? ⟨bk, 0 + j, none⟩ = some (.string x)) (hbk : bk < w.heap.size)
    (hN : xs.length ≤ 100) (hcap : xs.length ≤ c) (hlen : (xs.map (·.data.toList)).flatten.length ≤ 1000) :
    Calls Tryd.prog 57 #[.slice (some ⟨bk, 0, none⟩) xs.length c] w fun e w' => e = .returned (.string (str (xs.map (·.data.toList)).flatten)) ∧ Below w.heap.size w w' := by
  have hj := Tryd.strings_Join bk 0 c xs ⟨#[]⟩ w hcells hbk (by omega) hcap (by show (Lib.join _ []).length ≤ _; rw [join_flat]; omega)
  have he : Lib.join (xs.map (·.data.toList)) (⟨#[]⟩ : ByteArray).data.toList = (xs.map (·.data.toList)).flatten := join_flat _
  rw [he] at hj
  have H := Lib.hid hj
  clear hj he hcells hlen
  go_enter Tryd.func57, Tryd.ntmps57
  go_wp2_with (go_at_call 65; refine H.out.mono ?_; rintro e w' ⟨rfl, hb⟩)
  go_ret
  exact ⟨rfl, hb⟩

theorem itoa_any (x : Int) (h0 : 0 ≤ x) (h1 : x < 100) (w : World) :
    Calls Tryd.prog 43 #[.int .i64 x] w fun e w' => e = .returned (.string (str (dec x))) ∧ w = w' := by
  obtain ⟨n, rfl⟩ : ∃ n : Nat, x = n := ⟨x.toNat, by omega⟩
  exact (Tryd.strconv_Itoa_small n (by omega) w).mono fun _ _ ⟨he, hw⟩ => ⟨he, hw.symm⟩

/-- A new slice of texts. -/
theorem concatN (xs : List (List UInt8)) (hN : xs.length ≤ 100) (hlen : xs.flatten.length ≤ 1000) (w : World) :
    Calls Tryd.prog 57 #[.slice (some ⟨w.heap.size, 0, none⟩) xs.length xs.length] (w.alloc (.cells (xs.map fun l => Value.string (str l)).toArray 9)) fun e w' => e = .returned (.string (str xs.flatten)) ∧ Below w.heap.size w w' := by
  have hm : (xs.map str).map (·.data.toList) = xs := by simp [Function.comp_def]
  have h := concat_any w.heap.size xs.length (xs.map str) (w.alloc (.cells (xs.map fun l => Value.string (str l)).toArray 9)) (by
    intro j x hx
    simp only [List.getElem?_map, Option.map_eq_some_iff] at hx
    obtain ⟨l, hl, rfl⟩ := hx
    rw [Nat.zero_add, World.cell?_alloc_new]
    simp [hl]) (by simp) (by simpa using hN) (by simp) (by rw [hm]; exact hlen)
  rw [hm, List.length_map] at h
  exact h.mono fun e w' ⟨he, hb⟩ => ⟨he, ((Below.refl _ _).alloc (Nat.le_refl _) _).trans (hb.mono (by simp))⟩

theorem concat2 (a b : List UInt8) (ha : a.length ≤ 100) (hb : b.length ≤ 100) (w : World) :
    Calls Tryd.prog 57 #[.slice (some ⟨w.heap.size, 0, none⟩) 2 2] (w.alloc (.cells #[.string (str a), .string (str b)] 9)) fun e w' => e = .returned (.string (str (a ++ b))) ∧ Below w.heap.size w w' := by
  have h := concatN [a, b] (by simp) (by simp; omega) w
  exact h.mono fun e w' ⟨he, hb⟩ => ⟨by rw [he]; simp, hb⟩
theorem concat4 (a b c d : List UInt8) (ha : a.length ≤ 100) (hb : b.length ≤ 100) (hc : c.length ≤ 100) (hd : d.length ≤ 100) (w : World) :
    Calls Tryd.prog 57 #[.slice (some ⟨w.heap.size, 0, none⟩) 4 4] (w.alloc (.cells #[.string (str a), .string (str b), .string (str c), .string (str d)] 9)) fun e w' => e = .returned (.string (str (a ++ b ++ c ++ d))) ∧ Below w.heap.size w w' := by
  have h := concatN [a, b, c, d] (by simp) (by simp; omega) w
  exact h.mono fun e w' ⟨he, hb⟩ => ⟨by rw [he]; simp, hb⟩
theorem concat5 (a b c d f : List UInt8) (ha : a.length ≤ 100) (hb : b.length ≤ 100) (hc : c.length ≤ 100) (hd : d.length ≤ 100) (hf : f.length ≤ 100) (w : World) :
    Calls Tryd.prog 57 #[.slice (some ⟨w.heap.size, 0, none⟩) 5 5] (w.alloc (.cells #[.string (str a), .string (str b), .string (str c), .string (str d), .string (str f)] 9)) fun e w' => e = .returned (.string (str (a ++ b ++ c ++ d ++ f))) ∧ Below w.heap.size w w' := by
  have h := concatN [a, b, c, d, f] (by simp) (by simp; omega) w
  exact h.mono fun e w' ⟨he, hb⟩ => ⟨by rw [he]; simp, hb⟩
theorem concat6 (a b c d f g : List UInt8) (ha : a.length ≤ 100) (hb : b.length ≤ 100) (hc : c.length ≤ 100) (hd : d.length ≤ 100) (hf : f.length ≤ 100) (hg : g.length ≤ 100) (w : World) :
    Calls Tryd.prog 57 #[.slice (some ⟨w.heap.size, 0, none⟩) 6 6] (w.alloc (.cells #[.string (str a), .string (str b), .string (str c), .string (str d), .string (str f), .string (str g)] 9)) fun e w' => e = .returned (.string (str (a ++ b ++ c ++ d ++ f ++ g))) ∧ Below w.heap.size w w' := by
  have h := concatN [a, b, c, d, f, g] (by simp) (by simp; omega) w
  exact h.mono fun e w' ⟨he, hb⟩ => ⟨by rw [he]; simp, hb⟩

theorem dec_two (x : Int) (h0 : 0 ≤ x) (h1 : x < 100) : dec (x / 10) ++ dec (x % 10) = two x := by
  obtain ⟨n, rfl⟩ : ∃ n : Nat, x = n := ⟨x.toNat, by omega⟩
  unfold dec two
  rw [Lib.decDigits_one (i := ((n : Int) / 10).toNat) (by omega), Lib.decDigits_one (i := ((n : Int) % 10).toNat) (by omega)]
  rw [show ((n : Int) / 10).toNat = n / 10 by omega, show ((n : Int) % 10).toNat = n % 10 by omega]
  rfl

theorem twoDigits_any (x : Int) (h0 : 0 ≤ x) (h1 : x < 100) (w : World) :
    Calls Tryd.prog 58 #[.int .i64 x] w fun e w' => e = .returned (.string (str (two x))) ∧ Below w.heap.size w w' := by
  have l1 := dec_len (x / 10) (by omega)
  have l2 := dec_len (x % 10) (by omega)
  go_enter Tryd.func58, Tryd.ntmps58
  go_wp2_with (first | (go_at_call 43; refine (itoa_any _ (by omega) (by omega) _).mono ?_; rintro e w' ⟨rfl, rfl⟩) | (go_at_call 57; refine (concat2 _ _ (by omega) (by omega) _).mono ?_; rintro e w' ⟨rfl, hb⟩))
  go_ret
  exact ⟨by rw [← dec_two x h0 h1]; rfl, hb⟩

theorem format_yes (t : Int) (h0 : 0 ≤ t) (h1 : t ≤ 172800) (w : World) :
    Calls Tryd.prog 52 #[.int .i64 t] w fun e w' => e = .returned (.tuple #[.string (str (timeText t)), .int .i64 0]) ∧ Below w.heap.size w w' := by
  go_enter Tryd.func52, Tryd.ntmps52
  go_wp2_with (go_at_call 56; refine (split_yes _ h0 h1 _).mono ?_; rintro e w' ⟨rfl, rfl⟩)
  go_wp2_with fail
  refine (twoDigits_any (t / 3600) (by omega) (by omega) _).mono ?_
  rintro e w1 ⟨rfl, b1⟩
  go_wp2_with fail
  refine (twoDigits_any (t % 3600 / 60) (by omega) (by omega) _).mono ?_
  rintro e w2 ⟨rfl, b2⟩
  go_wp2_with fail
  refine (twoDigits_any (t % 60) (by omega) (by omega) _).mono ?_
  rintro e w3 ⟨rfl, b3⟩
  go_wp2_with fail
  refine (concat5 _ _ _ _ _ (two_le _) (by decide) (two_le _) (by decide) (two_le _) _).mono ?_
  rintro e w4 ⟨rfl, b4⟩
  go_wp2_with fail
  go_ret2
  exact ⟨rfl, (b1.trans (b2.mono b1.size)).trans ((b3.trans (b4.mono b3.size)).mono (Nat.le_trans b1.size b2.size))⟩
theorem format_no (t : Int) (h : t < 0 ∨ 172800 < t) (w : World) :
    Calls Tryd.prog 52 #[.int .i64 t] w fun e w' => e = .returned (.tuple #[.string (str []), .int .i64 10]) ∧ w = w' := by
  go_enter Tryd.func52, Tryd.ntmps52
  go_wp2_with (go_at_call 56; refine (split_no _ h _).mono ?_; rintro e w' ⟨rfl, rfl⟩)
  go_ret2
  exact ⟨rfl, rfl⟩

theorem ret_text {a b : List UInt8} (h : a = b) {n : Int} : Ending.returned (.tuple #[.string (str a), .int .i64 n]) = Ending.returned (.tuple #[.string (str b), .int .i64 n]) := by rw [h]
end Go.Proofs.YtalghfmdaifcgaaDoor
