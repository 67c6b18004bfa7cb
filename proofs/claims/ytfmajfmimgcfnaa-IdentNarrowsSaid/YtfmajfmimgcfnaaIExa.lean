/-
  The chapter's examples: the law's own helper answers true; the helpers that look whether names rise and whether a list is a section of another. Condition: none for the examples.
-/
import Derived.Test.YtfmajfmimgcfnaaIMad
namespace Go.Proofs.Ytfmajfmimgcfnaa
open Go.RowKit

theorem lst_lit (w : World) (cs : Array Value) (ls : List (List UInt8)) (h : cs.toList = sts ls) (n : Nat) (hn : ls.length = n) : Lst (w.alloc (.cells cs 9 (0, 0))) (.slice (some ⟨w.heap.size, 0, none⟩) n n) ls := by
  subst hn
  refine ⟨_, _, rfl, ⟨Nat.le_refl _, fun h => absurd h (by simp)⟩, fun _ => ⟨w.heap.size, 0, rfl, by simp, fun j x hj => ?_⟩⟩
  rw [Nat.zero_add, cell_of_row _ _ j _ _ _ (heap_alloc_new _ _), ← hj, ← h]
  simp
theorem lsti_lit (w : World) (cs : Array Value) (ls : List Int) (h : cs.toList = ints ls) (n : Nat) (hn : ls.length = n) : LstI (w.alloc (.cells cs 3 (0, 0))) (.slice (some ⟨w.heap.size, 0, none⟩) n n) ls := by
  subst hn
  refine ⟨_, _, rfl, Nat.le_refl _, fun h => absurd h (by simp), fun _ => ⟨w.heap.size, 0, rfl, by simp, fun j x hj => ?_⟩⟩
  rw [Nat.zero_add, cell_of_row _ _ j _ _ _ (heap_alloc_new _ _), ← hj, ← h]
  simp

/-! ### The examples -/
theorem few_long {ls : List (List UInt8)} (h : ls.all (fun x => decide (x.length ≤ 1048576)) = true) : ∀ (j : Nat) x, ls[j]? = some x → x.length ≤ 1048576 := fun j x hx => by
  rw [List.all_eq_true] at h
  exact of_decide_eq_true (h x (List.mem_iff_getElem?.2 ⟨j, hx⟩))
theorem uni1 (w : World) : Calls Try.prog 18 #[.slice (some ⟨w.heap.size, 0, none⟩) 3 3] (w.alloc (.cells #[.string ⟨#[97]⟩, .string ⟨#[98]⟩, .string ⟨#[97]⟩] 9 (0, 0))) fun e w' => e = .returned (.tuple #[.int .i64 2, .int .i64 6]) ∧ Below w.heap.size w w' := by
  have h := unique_any _ [[97], [98], [97]] (by decide) (few_long (by decide)) _ (lst_lit w #[.string ⟨#[97]⟩, .string ⟨#[98]⟩, .string ⟨#[97]⟩] _ rfl 3 rfl)
  rw [show uniqR [[97], [98], [97]] = (2, 6) by decide] at h
  exact h.mono fun _ _ ⟨a, b⟩ => ⟨a, ((Below.refl _ _).alloc (Nat.le_refl _) _).trans (b.mono (by simp))⟩
theorem uni2 (w : World) : Calls Try.prog 18 #[.slice (some ⟨w.heap.size, 0, none⟩) 3 3] (w.alloc (.cells #[.string ⟨#[97]⟩, .string ⟨#[63]⟩, .string ⟨#[97]⟩] 9 (0, 0))) fun e w' => e = .returned (.tuple #[.int .i64 1, .int .i64 12]) ∧ Below w.heap.size w w' := by
  have h := unique_any _ [[97], [63], [97]] (by decide) (few_long (by decide)) _ (lst_lit w #[.string ⟨#[97]⟩, .string ⟨#[63]⟩, .string ⟨#[97]⟩] _ rfl 3 rfl)
  rw [show uniqR [[97], [63], [97]] = (1, 12) by decide] at h
  exact h.mono fun _ _ ⟨a, b⟩ => ⟨a, ((Below.refl _ _).alloc (Nat.le_refl _) _).trans (b.mono (by simp))⟩
/-- The names of the examples' table. -/
def exN : List (List UInt8) := [[98], [97, 46, 50], [97]]
theorem ex_good : Good5 exN := by
  show (uniqR exN).2 = 0
  decide
theorem new1 (w : World) : Calls Try.prog 29 #[.slice (some ⟨w.heap.size, 0, none⟩) 3 3] (w.alloc (.cells #[.string ⟨#[98]⟩, .string ⟨#[97, 46, 50]⟩, .string ⟨#[97]⟩] 9 (0, 0))) fun e w' => ∃ t, e = .returned (.tuple #[t, .int .i64 0, .int .i64 0]) ∧ Tab w' w.heap.size t exN ∧ Below w.heap.size w w' := by
  have h := new_good _ exN (by decide) (few_long (by decide)) ex_good _ (lst_lit w #[.string ⟨#[98]⟩, .string ⟨#[97, 46, 50]⟩, .string ⟨#[97]⟩] _ rfl 3 rfl)
  exact h.mono fun _ _ ⟨t, a, c, b⟩ => ⟨t, a, c.down (by simp), ((Below.refl _ _).alloc (Nat.le_refl _) _).trans (b.mono (by simp))⟩
theorem sec_ex {p : List UInt8} {o : List Nat} (h1 : o.Pairwise fun i j => cmpL (nameAt exN i) (nameAt exN j) = -1) (h2 : ∀ i, i < 3 → (i ∈ o ↔ beginsB p (nameAt exN i) = true)) (h3 : ∀ i ∈ o, i < 3) : secL exN p = o := by
  refine (sec_eq ex_good ⟨h1, fun i => ?_⟩).symm
  constructor
  · intro h
    exact ⟨h3 i h, (h2 i (h3 i h)).1 h⟩
  · rintro ⟨h, hb⟩
    exact (h2 i h).2 hb
theorem sec_ex1 : secL exN [] = [2, 1, 0] := sec_ex (by decide) (fun i hi => match i, hi with | 0, _ => by decide | 1, _ => by decide | 2, _ => by decide) (by decide)
theorem sec_ex2 : secL exN [97] = [2, 1] := sec_ex (by decide) (fun i hi => match i, hi with | 0, _ => by decide | 1, _ => by decide | 2, _ => by decide) (by decide)
theorem same_lit (w : World) (u : Value) (ls : List Int) (cs : Array Value) (n : Nat) (hu : LstI w u ls) (h : cs.toList = ints ls) (hn : ls.length = n) (hl : n ≤ 1000) :
    Calls Try.prog 25 #[u, .slice (some ⟨w.heap.size, 0, none⟩) n n] (w.alloc (.cells cs 3 (0, 0))) fun e w' => e = .returned (.bool true) ∧ Below w.heap.size w w' := by
  have hb := (Below.refl w.heap.size w).alloc (Nat.le_refl _) (.cells cs 3 (0, 0))
  have := Calls.below (same_any u _ ls ls (by omega) _ (hu.below hb) (lsti_lit w cs ls h n hn))
  rw [decide_eq_true rfl] at this
  exact this.mono fun _ _ ⟨a, b⟩ => ⟨a, hb.trans (b.mono hb.size)⟩
set_option maxHeartbeats 4000000 in
theorem example_holds (w : World) : Calls Try.prog 14 #[] w fun e w' => e = .returned (.bool true) ∧ Below w.heap.size w w' := by
  go_enter Try.func14, Try.ntmps14
  go_wp2_with fail
  refine (uni1 _).mono ?_
  rintro e w1 ⟨rfl, b1⟩
  go_wp2_with fail
  refine (uni2 _).mono ?_
  rintro e w2 ⟨rfl, b2'⟩
  have b2 := b1.trans (b2'.mono b1.size)
  clear b1 b2'
  go_wp2_with fail
  refine (new1 _).mono ?_
  rintro e w3 ⟨t, rfl, tab, b3'⟩
  have b3 := b2.trans (b3'.mono b2.size)
  have T := Lib.hid tab
  obtain ⟨tb, mb, nv, rfl, -⟩ := tab
  have B3 := Lib.hid b3
  clear b2 b3' b3
  have F1 := Lib.hid (find_tab w3 _ _ _ T.out ⟨#[97]⟩ (by decide))
  have F2 := Lib.hid (find_tab w3 _ _ _ T.out ⟨#[99]⟩ (by decide))
  have M := Lib.hid (name_tab w3 _ _ _ T.out 1 [97, 46, 50] rfl)
  have L := Lib.hid (len_tab w3 _ _ _ T.out)
  have V1 := Lib.hid (valid_any ⟨#[83, 116, 111, 112, 45, 49, 46, 97]⟩ (by decide) w3)
  have V2 := Lib.hid (valid_any ⟨#[97, 32, 98]⟩ (by decide) w3)
  have V3 := Lib.hid (valid_any ⟨#[]⟩ (by decide) w3)
  have C := Lib.hid (compare_any ⟨#[66]⟩ ⟨#[97]⟩ w3)
  have S1 := Lib.hid (sorted_any w3 _ _ _ T.out ex_good (by decide))
  rw [show ((idxOf exN (⟨#[97]⟩ : ByteArray).data.toList : Nat) : Int) = 2 by decide, show decide ((⟨#[97]⟩ : ByteArray).data.toList ∈ exN) = true by decide] at F1
  rw [show ((idxOf exN (⟨#[99]⟩ : ByteArray).data.toList : Nat) : Int) = 0 by decide, show decide ((⟨#[99]⟩ : ByteArray).data.toList ∈ exN) = false by decide] at F2
  rw [show str [97, 46, 50] = ⟨#[97, 46, 50]⟩ by rfl] at M
  rw [show ((exN.length : Nat) : Int) = 3 by rfl] at L
  rw [show validB (⟨#[83, 116, 111, 112, 45, 49, 46, 97]⟩ : ByteArray).data.toList = true by decide] at V1
  rw [show validB (⟨#[97, 32, 98]⟩ : ByteArray).data.toList = false by decide] at V2
  rw [show validB (⟨#[]⟩ : ByteArray).data.toList = false by decide] at V3
  rw [show cmpL (⟨#[66]⟩ : ByteArray).data.toList (⟨#[97]⟩ : ByteArray).data.toList = -1 by decide] at C
  rw [sec_ex1] at S1
  go_wp2_with fail
  refine (F1.out).mono ?_
  rintro e w' ⟨rfl, rfl⟩
  go_wp2_with fail
  refine (M.out).mono ?_
  rintro e w' ⟨rfl, rfl⟩
  go_wp2_with fail
  refine (F2.out).mono ?_
  rintro e w' ⟨rfl, rfl⟩
  go_wp2_with fail
  refine (V1.out).mono ?_
  rintro e w' ⟨rfl, rfl⟩
  go_wp2_with fail
  refine (V2.out).mono ?_
  rintro e w' ⟨rfl, rfl⟩
  go_wp2_with fail
  refine (V3.out).mono ?_
  rintro e w' ⟨rfl, rfl⟩
  go_wp2_with fail
  refine (C.out).mono ?_
  rintro e w' ⟨rfl, rfl⟩
  go_wp2_with fail
  refine (L.out).mono ?_
  rintro e w' ⟨rfl, rfl⟩
  clear F1 F2 M L V1 V2 V3 C
  go_wp2_with fail
  refine (S1.out).mono ?_
  rintro e w4 ⟨v4, rfl, l4, b4⟩
  have B4 := Lib.hid (B3.out.trans (b4.mono B3.out.size))
  have E4 := Lib.hid (same_lit w4 v4 _ #[.int .i64 2, .int .i64 1, .int .i64 0] 3 l4 rfl rfl (by decide))
  have T4 := Lib.hid (T.out.below b4)
  clear l4 b4 S1 B3 T
  go_wp2_with fail
  refine (E4.out).mono ?_
  rintro e w5 ⟨rfl, b5⟩
  have B5 := Lib.hid (B4.out.trans (b5.mono B4.out.size))
  have S5 := Lib.hid (prefix_any w5 _ _ _ (T4.out.below b5) ex_good (by decide) ⟨#[97]⟩)
  rw [show (⟨#[97]⟩ : ByteArray).data.toList = [97] by rfl, sec_ex2] at S5
  clear b5 B4 E4 T4
  go_wp2_with fail
  refine (S5.out).mono ?_
  rintro e w6 ⟨v6, rfl, l6, b6⟩
  have B6 := Lib.hid (B5.out.trans (b6.mono B5.out.size))
  have E6 := Lib.hid (same_lit w6 v6 _ #[.int .i64 2, .int .i64 1] 2 l6 rfl rfl (by decide))
  clear l6 b6 S5 B5
  go_wp2_with fail
  refine (E6.out).mono ?_
  rintro e w7 ⟨rfl, b7⟩
  have B7 := Lib.hid (B6.out.trans (b7.mono B6.out.size))
  clear b7 B6 E6
  go_wp2_with fail
  go_ret
  exact ⟨rfl, B7.out⟩
end Go.Proofs.Ytfmajfmimgcfnaa
