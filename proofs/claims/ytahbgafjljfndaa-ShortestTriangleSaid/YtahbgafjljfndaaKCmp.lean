/-
  The program's merge (the closure of Components) and numbers: what each call answers. Condition: a checked graph.
-/
import Derived.Test.YtahbgafjljfndaaKRev
namespace Go.Proofs.Ytahbgafjljfndaa
open Go.RowKit

theorem getI_of {d : List Int} {i : Nat} {x : Int} (h : d[i]? = some x) : d.getD i 0 = x := by rw [List.getD_eq_getElem?_getD, h]; rfl
theorem at_getI {d : List Int} {i : Nat} (h : i < d.length) : d[i]? = some (d.getD i 0) := by
  obtain ⟨x, hx⟩ := at_lt h
  rw [getI_of hx, hx]
/-- One step towards the root, or the root. -/
theorem Rt.next {par : List Int} {i r : Nat} (h : Rt par i r) : (i = r ∧ par.getD i 0 = (i : Int)) ∨ ∃ p : Nat, par.getD i 0 = (p : Int) ∧ p < i ∧ Rt par p r := by
  cases h with
  | root h => exact .inl ⟨rfl, h⟩
  | step a b c => exact .inr ⟨_, a, b, c⟩
set_option maxRecDepth 100000 in
set_option maxHeartbeats 4000000 in
theorem merge_any (n G E i k x y cap : Nat) (par : List Int) (hp : par.length = n) (hi : i < n) (hk : k < n) (hx : Rt par i x) (hy : Rt par k y) (base : Nat) (w : World) (ho : OwnI w base (.slice (some ⟨G, 0, none⟩) n cap) par) (he : w.cell? ⟨E, 0, none⟩ = some (.slice (some ⟨G, 0, none⟩) n cap)) :
    Calls Try.prog 31 #[.int .i64 (i : Int), .int .i64 (k : Int), .pointer (some ⟨E, 0, none⟩)] w fun e w' => e = .returned (.tuple #[]) ∧ w' = w.setCell ⟨G, max x y, none⟩ (.int .i64 ((min x y : Nat) : Int)) := by
  have HO := Lib.hid ho
  have AT : Hid (∀ j, j < n → w.cell? ⟨G, j, none⟩ = some (.int .i64 (par.getD j 0)) ∧ w.frozen? ⟨G, j, none⟩ = false) := fun j hj => OwnI.atn hp ho (at_getI (by omega))
  have hxn : x < n := Nat.lt_of_le_of_lt hx.le hi
  have hyn : y < n := Nat.lt_of_le_of_lt hy.le hk
  have HX := Lib.hid hx
  have HY := Lib.hid hy
  clear ho hx hy
  go_enter Try.func31, Try.ntmps31
  go_wp2_with fail
  go_step3
  go_wp2_with fail
  go_step3
  go_wp2_with fail
  go_loop [0, 1] (fun a c => ∃ p q : Nat, a = .int .i64 p ∧ c = .int .i64 q ∧ p < n ∧ q < n ∧ Hid (Rt par p x) ∧ Hid (Rt par q y)) (fun a c => (intOf a).toNat + (intOf c).toNat)
  case atStart => exact ⟨i, k, rfl, rfl, hi, hk, HX, HY⟩
  case round =>
    clear HX HY hi hk
    obtain ⟨p, q, rfl, rfl, hpn, hqn, HX, HY⟩ := hrel
    have gp : (p : Int) < (n : Int) := by omega
    have gq : (q : Int) < (n : Int) := by omega
    obtain ⟨c0, f0⟩ := AT.out p hpn
    rcases HX.out.next with ⟨rfl, hr⟩ | ⟨p', hr, hlt, hx'⟩
    · rw [hr] at c0
      have t0 := neq_false (a := (p : Int)) rfl
      obtain ⟨c1, f1⟩ := AT.out q hqn
      rcases HY.out.next with ⟨rfl, hs⟩ | ⟨q', hs, hlt, hy'⟩
      · rw [hs] at c1
        have t1 := neq_false (a := (q : Int)) rfl
        clear HX HY hr hs
        go_wp2_with fail
        all_goals
          go_end0
          refine ⟨rfl, ?_⟩
          first
            | (rw [Nat.max_eq_right (by omega), Nat.min_eq_left (by omega)]; done)
            | (rw [Nat.max_eq_left (by omega), Nat.min_eq_right (by omega)]; done)
            | (obtain rfl : p = q := by omega
               rw [Nat.max_self, Nat.min_self])
      · rw [hs] at c1
        have t1 := bne_true (a := (q' : Int)) (b := (q : Int)) (by omega)
        have Y2 := Lib.hid hy'
        have HR := Lib.hid hr
        clear HX HY hr hs hy'
        go_wp2_with fail
        go_round
        case rel => exact ⟨p, q', rfl, rfl, hpn, by omega, .root HR.out, Y2⟩
        case measure => simp [intOf]; omega
    · rw [hr] at c0
      have t0 := bne_true (a := (p' : Int)) (b := (p : Int)) (by omega)
      have X2 := Lib.hid hx'
      clear HX hr hx'
      go_wp2_with fail
      go_round
      case rel => exact ⟨p', q, rfl, rfl, by omega, hqn, X2, HY⟩
      case measure => simp [intOf]; omega

/-! ### numbers -/
theorem rank_le (f : List Int) (k : Nat) : rank f k ≤ k := by
  unfold rank
  have := List.length_filter_le (fun j => decide (f.getD j 0 = (j : Int))) (List.range k)
  rw [List.length_range] at this
  exact this
theorem rank_yes {f : List Int} {k : Nat} (h : f.getD k 0 = (k : Int)) : rank f (k + 1) = rank f k + 1 := by rw [rank_succ, if_pos h]
theorem rank_no {f : List Int} {k : Nat} (h : f.getD k 0 ≠ (k : Int)) : rank f (k + 1) = rank f k := by rw [rank_succ, if_neg h, Nat.add_zero]
set_option maxRecDepth 100000 in
set_option maxHeartbeats 4000000 in
theorem numbers_any (n : Nat) (hn : n ≤ 64) (L : List Ed) (par : List Int) (hu : Uf L n par) (hj : Jn par L) (hl : Inn L n) (v : Value) (w : World) (h : LstI w v par) :
    Calls Try.prog 32 #[v] w fun e w' => ∃ u, e = .returned u ∧ OwnI w' w.heap.size u (compL (firstL n L)) ∧ Below w.heap.size w w' := by
  have hp := hu.len
  have H := Lib.hid h
  obtain ⟨A, c, rfl, -, -, -⟩ := h
  have FR := Lib.hid (fun i (hi : i < n) => hu.first hj hl hi)
  have hfl := firstL_length n L
  have hcl : (compL (firstL n L)).length = n := by rw [compL_length, hfl]
  rw [hp]
  have MK := mkI_rep n (by omega) (n : Int) rfl
  obtain ⟨w1, hw1⟩ : ∃ x, w.alloc (.cells (Array.replicate n (Value.int .i64 0)) 3 (0, 0)) = x := ⟨_, rfl⟩
  have O1 : Hid (OwnI w1 w.heap.size (.slice (some ⟨w.heap.size, 0, none⟩) n n) (partG 0 (compL (firstL n L)) n 0)) := by
    show OwnI _ _ _ _
    rw [partG_zero, ← hw1]
    exact ownI_rep w n (by omega)
  have B1 : Hid (Below w.heap.size w w1) := by rw [← hw1]; exact (Below.refl _ _).alloc (Nat.le_refl _) _
  have HJ := Lib.hid hj
  clear hu hj hl
  go_enter Try.func32, Try.ntmps32
  go_wp2_with fail
  clear MK hw1
  go_loopw [4, 12] (fun q i wr => ∃ k : Nat, i = .int .i64 k ∧ k ≤ n ∧ q = .int .i64 ((rank (firstL n L) k : Nat) : Int) ∧ Hid (OwnI wr w.heap.size (.slice (some ⟨w.heap.size, 0, none⟩) n n) (partG 0 (compL (firstL n L)) n k)) ∧ Hid (Below w.heap.size w wr)) (fun _ i _ => n - (intOf i).toNat)
  case atStart => exact ⟨0, rfl, Nat.zero_le _, rfl, O1, B1⟩
  case round =>
    clear O1 B1
    obtain ⟨k, rfl, hk, rfl, HO, HB⟩ := hrel
    by_cases hlt : k < n
    · obtain ⟨b0, o, rfl, hb0, m0⟩ := int_cell (H.out.below HB.out) (at_getI (d := par) (i := k) (by omega))
      have gk : (k : Int) < (n : Int) := by omega
      have hrk := rank_le (firstL n L) k
      have hpl := partG_len (z := (0 : Int)) hcl hk
      obtain ⟨q0, f0⟩ := OwnI.atn hpl HO.out (partG_at hcl hlt)
      rcases FR.out k hlt with ⟨hr, hf⟩ | ⟨p, hr, hpk, hf, hff⟩
      · rw [hr] at m0
        have t := beq_true (a := (k : Int)) rfl
        have e1 := num_root (f := firstL n L) (i := k) (by omega) hf
        have RK := Lib.hid (rank_yes hf)
        have O2 : Hid (OwnI (wr.setCell ⟨w.heap.size, k, none⟩ (.int .i64 ((rank (firstL n L) k : Nat) : Int))) w.heap.size (.slice (some ⟨w.heap.size, 0, none⟩) n n) (partG 0 (compL (firstL n L)) n (k + 1))) := by
          show OwnI _ _ _ _
          rw [← partG_set (z := (0 : Int)) hcl e1]
          exact OwnI.putn hpl HO.out k _
        have B2 : Hid (Below w.heap.size w (wr.setCell ⟨w.heap.size, k, none⟩ (.int .i64 ((rank (firstL n L) k : Nat) : Int)))) := HB.out.setCell (Nat.le_refl _) _
        clear HO HB e1 hpl hr hf
        generalize rank (firstL n L) k = r at RK hrk O2 B2 ⊢
        go_wp2_with fail
        go_roundw
        case rel => exact ⟨k + 1, by go_num, by omega, by rw [RK.out]; go_num, O2, B2⟩
        case measure => simp [intOf]; omega
      · rw [hr] at m0
        have t := beq_false (a := (p : Int)) (b := (k : Int)) (by omega)
        have e1 := num_same (f := firstL n L) (i := k) (p := p) (by omega) (by omega) hff
        obtain ⟨x, hx⟩ := at_lt (l := compL (firstL n L)) (k := p) (by omega)
        obtain ⟨q1, f1⟩ := OwnI.atn hpl HO.out ((partG_old (z := (0 : Int)) hcl hpk hk).trans hx)
        rw [hx] at e1
        have gp : (p : Int) < (n : Int) := by omega
        have RK := Lib.hid (rank_no hf)
        have O2 : Hid (OwnI (wr.setCell ⟨w.heap.size, k, none⟩ (.int .i64 x)) w.heap.size (.slice (some ⟨w.heap.size, 0, none⟩) n n) (partG 0 (compL (firstL n L)) n (k + 1))) := by
          show OwnI _ _ _ _
          rw [← partG_set (z := (0 : Int)) hcl e1]
          exact OwnI.putn hpl HO.out k _
        have B2 : Hid (Below w.heap.size w (wr.setCell ⟨w.heap.size, k, none⟩ (.int .i64 x))) := HB.out.setCell (Nat.le_refl _) _
        clear HO HB e1 hpl hr hf hff hx
        generalize rank (firstL n L) k = r at RK hrk ⊢
        go_wp2_with fail
        go_roundw
        case rel => exact ⟨k + 1, by go_num, by omega, by rw [RK.out], O2, B2⟩
        case measure => simp [intOf]; omega
    · have E : Hid (OwnI wr w.heap.size (.slice (some ⟨w.heap.size, 0, none⟩) n n) (compL (firstL n L))) := by
        have := HO.out
        rw [show k = n by omega, partG_all hcl] at this
        exact this
      have d : decide (k < n) = false := by rw [decide_eq_false_iff_not]; exact hlt
      clear hlt HO
      go_wp2_with fail
      go_ret
      exact ⟨_, rfl, E.out, HB.out⟩
end Go.Proofs.Ytahbgafjljfndaa
