/-
  The reference's Contains, insert, ends and kept: what each call answers. Condition: lists of at most 1000000 elements.
-/
import Derived.Test.YtmlmdggfcdakhaaVSt
import Derived.Test.YtmlmdggfcdakhaaIvR
import Derived.Test.YtmlmdggfcdakhaaSameI
namespace Go.Proofs.Ytmlmdggfcdakhaa
open Go.RowKit

theorem mem_next {l : List Sp} {k : Nat} {s : Sp} (h : l[k]? = some s) (x : Int) : memS (l.take (k + 1)) x = (memS (l.take k) x || inS s x) := by
  have : l.take (k + 1) = l.take k ++ [s] := by rw [List.take_add_one, h]; rfl
  rw [this, memS_app, memS_one]
theorem mem_hit {l : List Sp} {k : Nat} {s : Sp} (h : l[k]? = some s) {x : Int} (hx : s.1 ≤ x ∧ x < s.2) : memS l x = true := (memS_iff l x).2 ⟨s, List.mem_iff_getElem?.2 ⟨k, h⟩, hx⟩
set_option maxHeartbeats 1000000 in
theorem rcont_any (x : Int) (v : Value) (l : List Sp) (hl : l.length ≤ 1000000) (w : World) (h : LstV w v l) : Calls Try.prog 15 #[v, .int .i64 x] w fun e w' => e = .returned (.bool (memS l x)) ∧ w = w' := by
  have hh := h
  obtain ⟨A, c, rfl, -⟩ := hh
  have H := Lib.hid h
  clear h
  go_enter Try.func15, Try.ntmps15
  go_wp2_with fail
  go_loopw [5] (fun i wr => ∃ k : Nat, i = .int .i64 (k : Int) ∧ k ≤ l.length ∧ wr = w ∧ Hid (memS (l.take k) x = false)) (fun i _ => l.length - (intOf i).toNat)
  case atStart => exact ⟨0, rfl, Nat.zero_le _, rfl, Lib.hid rfl⟩
  case round =>
    obtain ⟨k, rfl, hk, hw, hm⟩ := hrel
    subst hw
    by_cases hlt : k < l.length
    · obtain ⟨s, hs⟩ := at_lt hlt
      obtain ⟨b, o, rfl, hb, m0, m1⟩ := sp_at H.out hs
      have gk : (k : Int) < (l.length : Int) := by omega
      have N := Lib.hid (mem_next hs x)
      have Y := Lib.hid (fun hx => mem_hit hs (x := x) hx)
      clear hs
      by_cases h1 : s.1 ≤ x
      · by_cases h2 : x < s.2
        · have R : Hid (memS l x = true) := Y.out ⟨h1, h2⟩
          clear N Y hm
          go_wp2_with fail
          go_ret
          exact ⟨ret_bool R.out.symm, rfl⟩
        · have d2 : decide (x < s.2) = false := decide_eq_false h2
          have M : Hid (memS (l.take (k + 1)) x = false) := by
            show _ = _
            rw [N.out, hm.out, (inS_no s x).2 (fun k => h2 k.2)]; rfl
          clear N Y hm h2
          go_wp2_with fail
          go_roundw
          case rel => exact ⟨k + 1, by go_num, by omega, trivial, M⟩
          case measure => simp [intOf]; omega
      · have d1 : decide (s.1 ≤ x) = false := decide_eq_false h1
        have M : Hid (memS (l.take (k + 1)) x = false) := by
          show _ = _
          rw [N.out, hm.out, (inS_no s x).2 (fun k => h1 k.1)]; rfl
        clear N Y hm h1
        go_wp2_with fail
        go_roundw
        case rel => exact ⟨k + 1, by go_num, by omega, trivial, M⟩
        case measure => simp [intOf]; omega
    · have d : decide (k < l.length) = false := by rw [decide_eq_false_iff_not]; exact hlt
      have M : Hid (memS l x = false) := by
        have := hm.out
        rw [List.take_of_length_le (by omega)] at this
        exact this
      clear hlt hm
      go_wp2_with fail
      go_ret
      exact ⟨ret_bool M.out.symm, rfl⟩
/-- Up to k all are less than x. -/
def LessTo (l : List Int) (x : Int) (k : Nat) : Prop := ∀ (j : Nat) y, j < k → l[j]? = some y → y < x
theorem LessTo.next {l : List Int} {x : Int} {k : Nat} {y : Int} (h : LessTo l x k) (hk : l[k]? = some y) (hy : y < x) : LessTo l x (k + 1) := fun j z hj hz => by
  rcases Nat.lt_or_ge j k with h1 | h1
  · exact h j z h1 hz
  · obtain rfl : j = k := by omega
    rw [hk] at hz
    cases hz
    exact hy
theorem int_at {w : World} {A : Option Addr} {n c : Nat} {l : List Int} (h : LstI w (.slice A n c) l) {i : Nat} {x : Int} (hs : l[i]? = some x) :
    ∃ b o, A = some ⟨b, o, none⟩ ∧ b < w.heap.size ∧ w.cell? ⟨b, o + i, none⟩ = some (.int .i64 x) := by
  obtain ⟨A', c', hv, _, _, hx⟩ := h
  cases hv
  have hi := (List.getElem?_eq_some_iff.1 hs).1
  obtain ⟨b, o, rfl, hb, hcell⟩ := hx (by omega)
  exact ⟨b, o, rfl, hb, hcell i _ (ints_at l i x hs)⟩
set_option maxHeartbeats 4000000 in
theorem insert_any (x : Int) (v : Value) (l : List Int) (hl : l.length ≤ 1000000) (w : World) (h : LstI w v l) :
    Calls Try.prog 42 #[v, .int .i64 x] w fun e w' => ∃ v', e = .returned v' ∧ LstI w' v' (insE l x) ∧ Below w.heap.size w w' := by
  have hh := h
  obtain ⟨A, c, rfl, -⟩ := hh
  have H := Lib.hid h
  clear h
  go_enter Try.func42, Try.ntmps42
  go_wp2_with fail
  go_loopw [5] (fun i wr => ∃ k : Nat, i = .int .i64 (k : Int) ∧ k ≤ l.length ∧ wr = w ∧ Hid (LessTo l x k)) (fun i _ => l.length - (intOf i).toNat)
  case atStart => exact ⟨0, rfl, Nat.zero_le _, rfl, Lib.hid (fun j _ hj => absurd hj (Nat.not_lt_zero j))⟩
  case round =>
    obtain ⟨k, rfl, hk, hw, hm⟩ := hrel
    subst hw
    have TL := Lib.hid (ints_to H.out k hk (k : Int) rfl)
    have FL := Lib.hid (ints_from H.out k hk (k : Int) rfl)
    by_cases hlt : k < l.length
    · obtain ⟨y, hy⟩ := at_lt hlt
      obtain ⟨b, o, rfl, hb, m0⟩ := int_at H.out hy
      have gk : (k : Int) < (l.length : Int) := by omega
      by_cases h1 : y < x
      · have M : Hid (LessTo l x (k + 1)) := hm.out.next hy h1
        clear hm hy
        go_wp2_with fail
        go_roundw
        case rel => exact ⟨k + 1, by go_num, by omega, trivial, M⟩
        case measure => simp [intOf]; omega
      · have d1 : decide (y < x) = false := decide_eq_false h1
        have E := Lib.hid (insE_at l x k hk hm.out fun z hz => by rw [hy] at hz; cases hz; exact h1)
        by_cases h2 : y = x
        · have e2 : (y == x) = true := beq_true h2
          have R : Hid (insE l x = l) := by
            show _ = _
            rw [E.out, if_pos (by rw [hy, h2])]
          clear E hm hy h1 h2 TL FL
          go_wp2_with fail
          go_ret
          exact ⟨_, rfl, by rw [R.out]; exact H.out, Below.refl _ _⟩
        · have e2 : (y == x) = false := beq_false h2
          have R : Hid (insE l x = l.take k ++ [x] ++ l.drop k) := by
            show _ = _
            rw [E.out, if_neg (by rw [hy]; simpa using h2)]
          obtain ⟨x1, s1, l1⟩ := TL.out
          obtain ⟨x2, s2, l2⟩ := FL.out
          have L1 := Lib.hid l1
          have L2 := Lib.hid l2
          have n1 : (l.take k).length ≤ 1000000 := by rw [List.length_take]; omega
          have n2 : (l.drop k).length ≤ 1000000 := by rw [List.length_drop]; omega
          clear E hm hy h1 h2 TL FL l1 l2
          generalize l.take k = p at L1 R n1
          generalize l.drop k = q at L2 R n2
          go_wp2_with (first | (at_builtin; refine app_ints _ rfl (.tmp 34) (.tmp 37) rfl wr.heap.size _ [] p rfl (OwnI.nil _ _) _ rfl L1.out (Nat.le_refl _) (by simp; omega) ?_; intro v1 w1 own1 b1; have O1 := Lib.hid own1; have B1 := Lib.hid b1; clear own1 b1) | (at_builtin; refine app_int _ rfl (.tmp 39) (.tmp 41) rfl wr.heap.size _ p x rfl (World.ownsRow.alloc O1.out _) w1.heap.size _ (heap_alloc_new _ _) rfl rfl (by have := B1.out.size; simp; omega) (by omega) ?_; intro v2 w2 own2 b2; have O2 := Lib.hid own2; have B2 := Lib.hid (B1.out.trans (((Below.refl _ _).alloc B1.out.size _).trans b2)); clear own2 b2) | (at_builtin; refine app_ints _ rfl (.tmp 43) (.tmp 46) rfl wr.heap.size _ (p ++ [x]) q rfl O2.out _ rfl (L2.out.below B2.out) B2.out.size (by simp; omega) ?_; intro v3 w3 own3 b3; have O3 := Lib.hid own3; have B3 := Lib.hid (B2.out.trans b3); clear own3 b3))
          go_wp2_with fail
          go_ret
          exact ⟨_, rfl, by rw [R.out]; exact OwnI.lst O3.out, B3.out⟩
    · have d : decide (k < l.length) = false := by rw [decide_eq_false_iff_not]; exact hlt
      have hnone : l[k]? = none := List.getElem?_eq_none (by omega)
      have E := Lib.hid (insE_at l x k hk hm.out fun z hz => by rw [hnone] at hz; cases hz)
      have R : Hid (insE l x = l.take k ++ [x] ++ l.drop k) := by
        show _ = _
        rw [E.out, if_neg (by rw [hnone]; simp)]
      obtain ⟨x1, s1, l1⟩ := TL.out
      obtain ⟨x2, s2, l2⟩ := FL.out
      have L1 := Lib.hid l1
      have L2 := Lib.hid l2
      have n1 : (l.take k).length ≤ 1000000 := by rw [List.length_take]; omega
      have n2 : (l.drop k).length ≤ 1000000 := by rw [List.length_drop]; omega
      clear E hm hnone hlt TL FL l1 l2
      generalize l.take k = p at L1 R n1
      generalize l.drop k = q at L2 R n2
      go_wp2_with (first | (at_builtin; refine app_ints _ rfl (.tmp 34) (.tmp 37) rfl wr.heap.size _ [] p rfl (OwnI.nil _ _) _ rfl L1.out (Nat.le_refl _) (by simp; omega) ?_; intro v1 w1 own1 b1; have O1 := Lib.hid own1; have B1 := Lib.hid b1; clear own1 b1) | (at_builtin; refine app_int _ rfl (.tmp 39) (.tmp 41) rfl wr.heap.size _ p x rfl (World.ownsRow.alloc O1.out _) w1.heap.size _ (heap_alloc_new _ _) rfl rfl (by have := B1.out.size; simp; omega) (by omega) ?_; intro v2 w2 own2 b2; have O2 := Lib.hid own2; have B2 := Lib.hid (B1.out.trans (((Below.refl _ _).alloc B1.out.size _).trans b2)); clear own2 b2) | (at_builtin; refine app_ints _ rfl (.tmp 43) (.tmp 46) rfl wr.heap.size _ (p ++ [x]) q rfl O2.out _ rfl (L2.out.below B2.out) B2.out.size (by simp; omega) ?_; intro v3 w3 own3 b3; have O3 := Lib.hid own3; have B3 := Lib.hid (B2.out.trans b3); clear own3 b3))
      go_wp2_with fail
      go_ret
      exact ⟨_, rfl, by rw [R.out]; exact OwnI.lst O3.out, B3.out⟩
end Go.Proofs.Ytmlmdggfcdakhaa
