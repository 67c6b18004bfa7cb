/-
  Lists of strings that come in, compared and bounded; Join of package field and of its reference: what each call answers; nothing that existed before the call has changed behind it. Condition: at most 1000 strings of at most 2^20 bytes each.
-/
import Derived.Test.YtpdekihfgglmkaaDoorFSplit
import Derived.Deep.OwnRows
import Derived.Laws.Rows
namespace Go.Proofs.YtpdekihfgglmkaaDoor
open Go.RowKit

/-- The value is a slice that reads as these strings. -/
def Lst (w : World) (v : Value) (ls : List (List UInt8)) : Prop := ∃ A c, v = .slice A ls.length c ∧ ls.length ≤ c ∧ (0 < ls.length → ∃ b o, A = some ⟨b, o, none⟩ ∧ b < w.heap.size ∧ ∀ (j : Nat) x, (sts ls)[j]? = some x → w.cell? ⟨b, o + j, none⟩ = some x)
theorem OwnS.lst {w : World} {base : Nat} {v : Value} {l : List (List UInt8)} (h : OwnS w base v l) : Lst w v l := by
  obtain ⟨A, c, hv, hc, hx⟩ := own_shape h
  refine ⟨A, c, hv, hc, fun h0 => ?_⟩
  obtain ⟨g, hA, _, hg, hcell⟩ := hx h0
  exact ⟨g, 0, hA, hg, hcell⟩
theorem Lst.below {w w' : World} {v : Value} {l : List (List UInt8)} (h : Lst w v l) (hb : Below w.heap.size w w') : Lst w' v l := by
  obtain ⟨A, c, hv, hc, hx⟩ := h
  refine ⟨A, c, hv, hc, fun h0 => ?_⟩
  obtain ⟨b, o, hA, hbl, hcell⟩ := hx h0
  exact ⟨b, o, hA, Nat.lt_of_lt_of_le hbl hb.size, fun j x hj => (hb.cell (p := ⟨b, o + j, none⟩) hbl).trans (hcell j x hj)⟩
theorem OwnS.len {w : World} {base : Nat} {v : Value} {l : List (List UInt8)} (h : OwnS w base v l) : l.length ≤ 9223372036854775807 := by
  rcases h.2 with ⟨_, h0⟩ | ⟨g, cap, cur, _, _, _, hn, hm, _⟩
  · omega
  · unfold maxLen at hm
    omega
theorem Lst.nil (w : World) (A : Option Addr) (c : Nat) : Lst w (.slice A 0 c) [] := ⟨A, c, rfl, Nat.zero_le _, fun h => absurd h (Nat.lt_irrefl _)⟩
theorem sts_at (l : List (List UInt8)) (k : Nat) (x : List UInt8) (h : l[k]? = some x) : (sts l)[k]? = some (.string (str x)) := by
  unfold sts
  rw [List.getElem?_map, h]
  rfl

/-! ### small -/
/-- A list of at most 100 strings of at most 2^12 bytes each. -/
def smallB (l : List (List UInt8)) : Bool := decide (l.length ≤ 100) && l.all fun x => decide (x.length ≤ 4096)
theorem small_many (l : List (List UInt8)) (h : 100 < l.length) : smallB l = false := by
  unfold smallB
  rw [decide_eq_false (by omega)]
  rfl
theorem small_long (l : List (List UInt8)) (k : Nat) (x : List UInt8) (h : l[k]? = some x) (hx : 4096 < x.length) : smallB l = false := by
  cases hs : smallB l with
  | false => rfl
  | true =>
    unfold smallB at hs
    rw [Bool.and_eq_true, List.all_eq_true] at hs
    have := of_decide_eq_true (hs.2 x (List.mem_iff_getElem?.2 ⟨k, h⟩))
    omega
theorem small_yes (l : List (List UInt8)) (h : l.length ≤ 100) (hx : ∀ (k : Nat) x, k < l.length → l[k]? = some x → x.length ≤ 4096) : smallB l = true := by
  unfold smallB
  rw [decide_eq_true h, Bool.true_and, List.all_eq_true]
  intro x hm
  obtain ⟨k, hk⟩ := List.mem_iff_getElem?.1 hm
  exact decide_eq_true (hx k x (List.getElem?_eq_some_iff.1 hk).1 hk)
theorem small_iff (l : List (List UInt8)) : smallB l = true ↔ l.length ≤ 100 ∧ ∀ x ∈ l, x.length ≤ 4096 := by
  unfold smallB
  rw [Bool.and_eq_true, List.all_eq_true]
  simp
set_option maxHeartbeats 1000000 in
theorem small_any (v : Value) (l : List (List UInt8)) (hl : l.length ≤ 9223372036854775807) (w : World) (h : Lst w v l) : Calls Tryd.prog 18 #[v] w fun e w' => e = .returned (.bool (smallB l)) ∧ w = w' := by
  obtain ⟨A, c, rfl, _, hx⟩ := h
  by_cases h1 : 100 < l.length
  · have R := Lib.hid (small_many l h1)
    have g : (100 : Int) < (l.length : Int) := by omega
    clear hx h1
    go_enter Tryd.func18, Tryd.ntmps18
    go_wp2_with fail
    go_ret
    exact ⟨ret_bool R.out.symm, rfl⟩
  have g : decide ((100 : Int) < (l.length : Int)) = false := by simp; omega
  have hl1 : l.length ≤ 100 := by omega
  have HX := Lib.hid hx
  clear hx h1
  go_enter Tryd.func18, Tryd.ntmps18
  go_wp2_with fail
  go_loop [3] (fun i => ∃ k : Nat, i = .int .i64 k ∧ k ≤ l.length ∧ Hid (∀ (j : Nat) x, j < k → l[j]? = some x → x.length ≤ 4096)) (fun i => l.length - (intOf i).toNat)
  case atStart => exact ⟨0, rfl, Nat.zero_le _, Lib.hid (fun j x hj => absurd hj (Nat.not_lt_zero _))⟩
  case round =>
    obtain ⟨k, rfl, hk, hall⟩ := hrel
    by_cases hlt : k < l.length
    · obtain ⟨b, o, rfl, hb, hcell⟩ := HX.out (by omega)
      obtain ⟨x, hx⟩ := at_lt hlt
      have hc := hcell k _ (sts_at l k x hx)
      obtain ⟨s, hs, hsz, hst⟩ := as_str x
      rw [hst] at hc
      clear hcell HX
      by_cases h4 : 4096 < x.length
      · have R := Lib.hid (small_long l k x hx h4)
        have g4 : (4096 : Int) < (s.size : Int) := by omega
        clear hx hs hsz hst h4 hall
        go_wp2_with fail
        go_ret
        exact ⟨ret_bool R.out.symm, rfl⟩
      · have g4 : decide ((4096 : Int) < (s.size : Int)) = false := by simp; omega
        have hst2 : Hid (∀ (j : Nat) y, j < k + 1 → l[j]? = some y → y.length ≤ 4096) := by
          intro j y hj hy
          by_cases hjk : j < k
          · exact hall.out j y hjk hy
          · obtain rfl : j = k := by omega
            rw [hx] at hy
            obtain rfl := Option.some.inj hy
            omega
        clear hx hs hsz hst h4 hall
        go_wp2_with fail
        go_round
        case rel => exact ⟨k + 1, by go_num, by omega, hst2⟩
        case measure => simp [intOf]; omega
    · have R := Lib.hid (small_yes l hl1 (fun j x hj => hall.out j x (by omega)))
      have d : decide (k < l.length) = false := by rw [decide_eq_false_iff_not]; exact hlt
      clear hall hlt HX
      go_wp2_with fail
      go_ret
      exact ⟨ret_bool R.out.symm, rfl⟩

/-! ### Same -/
theorem same_ne {a b : List (List UInt8)} (k : Nat) (x y : List UInt8) (hx : a[k]? = some x) (hy : b[k]? = some y) (h : x ≠ y) : decide (a = b) = false := by
  rw [decide_eq_false_iff_not]
  intro e
  rw [e, hy] at hx
  exact h (Option.some.inj hx).symm
theorem same_all {a b : List (List UInt8)} (hl : a.length = b.length) (h : ∀ (j : Nat) x, j < a.length → a[j]? = some x → b[j]? = some x) : decide (a = b) = true := by
  rw [decide_eq_true_iff]
  apply List.ext_getElem? fun j => ?_
  by_cases hj : j < a.length
  · obtain ⟨x, hx⟩ := at_lt hj
    rw [hx, h j x hj hx]
  · rw [List.getElem?_eq_none (by omega), List.getElem?_eq_none (by omega)]
set_option maxHeartbeats 1000000 in
theorem same_any (u v : Value) (a b : List (List UInt8)) (ha : a.length ≤ 9223372036854775807) (w : World) (h1 : Lst w u a) (h2 : Lst w v b) :
    Calls Tryd.prog 22 #[u, v] w fun e w' => e = .returned (.bool (decide (a = b))) ∧ Below w.heap.size w w' := by
  obtain ⟨A, c, rfl, _, hx⟩ := h1
  obtain ⟨B, d, rfl, _, hy⟩ := h2
  by_cases hl : a.length = b.length
  · have g : ((a.length : Int) != (b.length : Int)) = false := neq_false (by omega)
    have g' : (a.length != b.length) = false := by rw [hl]; simp
    have HX := Lib.hid hx
    have HY := Lib.hid hy
    have HL := Lib.hid hl
    clear hx hy hl
    go_enter Tryd.func22, Tryd.ntmps22
    go_wp2_with fail
    go_loopw [5] (fun i wr => ∃ k : Nat, i = .int .i64 k ∧ k ≤ a.length ∧ Hid (∀ (j : Nat) x, j < k → a[j]? = some x → b[j]? = some x) ∧ Below w.heap.size w wr) (fun i _ => a.length - (intOf i).toNat)
    case atStart => exact ⟨0, rfl, Nat.zero_le _, Lib.hid (fun j x hj => absurd hj (Nat.not_lt_zero _)), Below.refl _ _⟩
    case round =>
      clear g g'
      obtain ⟨k, rfl, hk, hall, hbw⟩ := hrel
      by_cases hlt : k < a.length
      · obtain ⟨b1, o1, rfl, hb1, hc1⟩ := HX.out (by omega)
        obtain ⟨b2, o2, rfl, hb2, hc2⟩ := HY.out (by have := HL.out; omega)
        obtain ⟨x, hx⟩ := at_lt hlt
        obtain ⟨y, hy⟩ := at_lt (l := b) (k := k) (by have := HL.out; omega)
        have m1 := (hbw.cell (p := ⟨b1, o1 + k, none⟩) hb1).trans (hc1 k _ (sts_at a k x hx))
        have m2 := (hbw.cell (p := ⟨b2, o2 + k, none⟩) hb2).trans (hc2 k _ (sts_at b k y hy))
        obtain ⟨s, hs, _, hst⟩ := as_str x
        obtain ⟨t, ht, _, htt⟩ := as_str y
        rw [hst] at m1
        rw [htt] at m2
        have gk : (k : Int) < (a.length : Int) := by omega
        have gk2 : (k : Int) < (b.length : Int) := by have := HL.out; omega
        have HB := Lib.hid hbw
        clear hc1 hc2 hbw
        by_cases hxy : x = y
        · have ne := bytes_eq (a := s) (b := t) (by rw [← hst, ← htt, hxy])
          have ne2 : (s.toList != t.toList) = false := by rw [bne, ne]; rfl
          have hall2 : Hid (∀ (j : Nat) z, j < k + 1 → a[j]? = some z → b[j]? = some z) := by
            intro j z hj hz
            by_cases hjk : j < k
            · exact hall.out j z hjk hz
            · obtain rfl : j = k := by omega
              rw [hx] at hz
              rw [hy, ← hxy]
              exact hz
          clear hx hy hs hst ht htt hxy hall HX HY
          go_wp2_with fail
          go_quiet (fail)
          have b3 := below_drewN (Below.refl wr.heap.size wr) nq
          generalize wr.drewN nq = w3 at b3 ⊢
          go_wp2_with fail
          go_roundw
          case rel => exact ⟨k + 1, by go_num, by omega, hall2, HB.out.trans (b3.mono HB.out.size)⟩
          case measure => simp [intOf]; omega
        · have ne := bytes_ne (a := s) (b := t) (fun e => hxy (by rw [← hs, ← ht, e]))
          have ne2 : (s.toList != t.toList) = true := by rw [bne, ne]; rfl
          have R := Lib.hid (same_ne k x y hx hy hxy)
          clear hx hy hs hst ht htt hxy hall HX HY
          go_wp2_with fail
          go_quiet (fail)
          have b3 := below_drewN (Below.refl wr.heap.size wr) nq
          generalize wr.drewN nq = w3 at b3 ⊢
          go_wp2_with fail
          go_ret
          exact ⟨ret_bool R.out.symm, HB.out.trans (b3.mono HB.out.size)⟩
      · have R := Lib.hid (same_all HL.out (fun j x hj => hall.out j x (by omega)))
        have d2 : decide (k < a.length) = false := by rw [decide_eq_false_iff_not]; exact hlt
        have HB := Lib.hid hbw
        clear hall hlt HX HY hbw
        go_wp2_with fail
        go_ret
        exact ⟨ret_bool R.out.symm, HB.out⟩
  · have g : ((a.length : Int) != (b.length : Int)) = true := bne_true (by omega)
    have g' : (a.length != b.length) = true := by rw [bne, beq_eq_false_iff_ne.2 hl]; rfl
    have R := Lib.hid (show decide (a = b) = false by rw [decide_eq_false_iff_not]; intro e; exact hl (by rw [e]))
    clear hx hy hl
    go_enter Tryd.func22, Tryd.ntmps22
    go_wp2_with fail
    go_ret
    exact ⟨ret_bool R.out.symm, Below.refl _ _⟩
end Go.Proofs.YtpdekihfgglmkaaDoor
