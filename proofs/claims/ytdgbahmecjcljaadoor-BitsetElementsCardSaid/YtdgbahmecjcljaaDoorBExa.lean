/-
  The reference's Min; the chapter's examples: the law's own helper answers true. Condition: the table of math/bits as its initialiser lays it.
-/
import Derived.Test.YtdgbahmecjcljaaDoorBFirst
namespace Go.Proofs.YtdgbahmecjcljaaDoor
open Go.RowKit

theorem rmin_any (s : Nat) (hs : W64 s) (w : World) : Calls Tryd.prog 30 #[.int .u64 (s : Int)] w fun e w' => e = .returned (.tuple #[.int .i64 ((minB s : Nat) : Int), .bool (decide (s ≠ 0))]) ∧ Below w.heap.size w w' := by
  have L := Lib.hid (rlist_any s hs w)
  by_cases h0 : s = 0
  · subst h0
    rw [show intN (elems 0) = [] by rw [elems_zero]; rfl] at L
    clear hs
    go_enter Tryd.func30, Tryd.ntmps30
    go_wp2_with fail
    refine L.out.mono ?_
    rintro e w1 ⟨v, rfl, l1, b1⟩
    obtain ⟨A, c, rfl, -⟩ := l1
    go_wp2_with fail
    go_ret2
    exact ⟨rfl, b1⟩
  · obtain ⟨h1, h2, h3⟩ := min_low hs h0
    have E := elems_low h1 h2 h3
    have D := Lib.hid (show decide (s ≠ 0) = true by simp [h0])
    rw [D.out]
    obtain ⟨r, hr⟩ : ∃ r, intN (elems (delB s (minB s))) = r := ⟨_, rfl⟩
    rw [show intN (elems s) = ((minB s : Nat) : Int) :: r by rw [E, ← hr]; rfl] at L
    clear hr E h1 h2 h3 h0 hs
    generalize minB s = m at L
    go_enter Tryd.func30, Tryd.ntmps30
    go_wp2_with fail
    refine L.out.mono ?_
    rintro e w1 ⟨v, rfl, l1, b1⟩
    obtain ⟨A, c, rfl, hc, _, hx⟩ := l1
    obtain ⟨b, o, rfl, hb, hcell⟩ := hx (by simp)
    have m0 := hcell 0 _ rfl
    rw [Nat.add_zero] at m0
    have g : ((((m : Int) :: r).length : Int) == 0) = false := beq_false (by simp; omega)
    have g2 : (0 : Int) < ((((m : Int) :: r).length : Nat) : Int) := by simp
    have g3 : 0 < ((m : Int) :: r).length := by simp
    clear hcell hx L
    generalize ((m : Int) :: r).length = q at g g2 g3 hc ⊢
    go_wp2_with fail
    go_ret2
    exact ⟨rfl, b1⟩

theorem of_lit (w : World) (cs : Array Value) (ls : List Int) (h : cs.toList = ints ls) (n : Nat) (hn : ls.length = n) (hl : n ≤ 1000) (r : Nat) (hr : setOfL ls = r) :
    Calls Tryd.prog 11 #[.slice (some ⟨w.heap.size, 0, none⟩) n n] (w.alloc (.cells cs 3 (0, 0))) fun e w' => e = .returned (.int .u64 (r : Int)) ∧ Below w.heap.size w w' := by
  have := of_any _ ls (by omega) _ (lsti_lit w cs ls h n hn)
  rw [hr] at this
  exact this.mono fun _ _ ⟨h1, h2⟩ => ⟨h1, h2 ▸ (Below.refl _ _).alloc (Nat.le_refl _) _⟩
set_option maxHeartbeats 4000000 in
theorem example_holds (w : World) (hg : Good w) : Calls Tryd.prog 10 #[] w fun e w' => e = .returned (.bool true) ∧ Below w.heap.size w w' := by
  have HG := Lib.hid hg
  clear hg
  go_enter Tryd.func10, Tryd.ntmps10
  go_wp2_with fail
  refine (of_lit w _ [5, 2] rfl 2 rfl (by decide) 36 (by decide +kernel)).mono ?_
  rintro e w1 ⟨rfl, b1⟩
  have B1 := Lib.hid b1
  clear b1
  have M := Lib.hid (min_any 36 (by decide) w1 (HG.out.below B1.out))
  rw [show minB 36 = 2 by decide +kernel, show decide ((36 : Nat) ≠ 0) = true by decide] at M
  go_wp2_with fail
  refine M.out.mono ?_
  rintro e w' ⟨rfl, rfl⟩
  clear M
  have R := Lib.hid (range_any 62 70 w1)
  have L := Lib.hid (list_any (diffB (lowN 70) (lowN 62)) (diff_lt (low_lt _)) w1 (HG.out.below B1.out))
  rw [show intN (elems (diffB (lowN 70) (lowN 62))) = [62, 63] by decide +kernel] at L
  generalize diffB (lowN 70) (lowN 62) = r at R L
  go_wp2_with fail
  refine (R.out).mono ?_
  rintro e w' ⟨rfl, rfl⟩
  go_wp2_with fail
  refine L.out.mono ?_
  rintro e w2 ⟨v2, rfl, l2, b2⟩
  have B2 := Lib.hid (B1.out.trans (b2.mono B1.out.size))
  have L2 := Lib.hid l2
  clear R L l2 b2 B1
  go_wp2_with fail
  refine (of_lit w2 _ [1, 2, 3] rfl 3 rfl (by decide) 14 (by decide +kernel)).mono ?_
  rintro e w3 ⟨rfl, b3⟩
  have B3 := Lib.hid (B2.out.trans (b3.mono B2.out.size))
  have L3 := Lib.hid (L2.out.below b3)
  clear b3 L2 B2
  have F := Lib.hid (first_any 14 (by decide) 2 (by decide) w3 (HG.out.below B3.out))
  rw [show intN ((elems 14).take (2 : Int).toNat) = [1, 2] by decide +kernel] at F
  go_wp2_with fail
  refine F.out.mono ?_
  rintro e w4 ⟨v4, rfl, l4, b4⟩
  have B4 := Lib.hid (B3.out.trans (b4.mono B3.out.size))
  have L4 := Lib.hid (L3.out.below b4)
  have S4 := Lib.hid l4
  clear b4 L3 B3 F l4
  go_wp2_with fail
  refine (of_lit w4 _ [3, 64, -1, 0, 3] rfl 5 rfl (by decide) 9 (by decide +kernel)).mono ?_
  rintro e w5 ⟨rfl, b5⟩
  have B5 := Lib.hid (B4.out.trans (b5.mono B4.out.size))
  have l5 := L4.out.below b5
  have s5 := S4.out.below b5
  clear b5 L4 S4 B4
  obtain ⟨A, c, rfl, _, _, hx⟩ := l5
  obtain ⟨p, o, rfl, hp, hc⟩ := hx (by decide)
  have m0 := hc 0 _ rfl
  rw [Nat.add_zero] at m0
  have m1 := hc 1 _ rfl
  obtain ⟨A', c', rfl, _, _, hx'⟩ := s5
  obtain ⟨p', o', rfl, hp', hc'⟩ := hx' (by decide)
  have m2 := hc' 1 _ rfl
  clear hx hx' hc hc'
  go_wp2_with fail
  go_ret
  exact ⟨rfl, B5.out⟩
end Go.Proofs.YtdgbahmecjcljaaDoor
