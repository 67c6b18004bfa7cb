/-
  The reference's comparisons of lists of pairs: Same, Find, Permuted, at lists that are the same, or a permutation. Condition: at most 10^6 elements.
-/
import Derived.Test.YtnmomkldlajimaaHRef
namespace Go.Proofs.Ytnmomkldlajimaa
open Go.RowKit

set_option maxRecDepth 100000 in
set_option maxHeartbeats 4000000 in
theorem same_any (v v' : Value) (l : List Pr) (hl : l.length ≤ 1000000) (w : World) (h : LstP w v l) (h' : LstP w v' l) :
    Calls Try.prog 17 #[v, v'] w fun e w' => e = .returned (.bool true) ∧ Below w.heap.size w w' := by
  have hh := h
  obtain ⟨A, c, rfl, -⟩ := hh
  have hh' := h'
  obtain ⟨A', c', rfl, -⟩ := hh'
  have H := Lib.hid h
  have H' := Lib.hid h'
  have q : ((l.length : Int) != (l.length : Int)) = false := neq_false rfl
  clear h h'
  go_enter Try.func17, Try.ntmps17
  go_wp2_with fail
  go_loopw [5] (fun u wr => ∃ (k : Nat), u = .int .i64 (k : Int) ∧ k ≤ l.length ∧ Hid (Below w.heap.size w wr)) (fun u _ => l.length - (intOf u).toNat)
  case atStart => exact ⟨0, rfl, Nat.zero_le _, Lib.hid (Below.refl _ _)⟩
  case round =>
    obtain ⟨k, rfl, hk, HB⟩ := hrel
    by_cases hlt : k < l.length
    · obtain ⟨x, hx⟩ := at_lt hlt
      obtain ⟨b, o, d, hv, hb, x0, x1⟩ := LstG.pair H.out hx
      cases hv
      obtain ⟨b', o', d', hv', hb', y0, y1⟩ := LstG.pair H'.out hx
      cases hv'
      rw [← HB.out.cell (p := ⟨b, _, none⟩) hb] at x0 x1
      rw [← HB.out.cell (p := ⟨b', _, none⟩) hb'] at y0 y1
      have gk : (k : Int) < (l.length : Int) := by omega
      clear hx
      go_wp2_with fail
      go_quiet (fail)
      go_wp2_with fail
      go_roundw
      case rel => exact ⟨k + 1, by go_num, by omega, below_drewN HB.out _⟩
      case measure => simp [intOf]; omega
    · have hkl : k = l.length := by omega
      subst hkl
      have d : decide (l.length < l.length) = false := by simp
      go_wp2_with fail
      go_ret
      exact ⟨rfl, HB.out⟩
/-- Find has come to an index that holds x. -/
def Found (l : List Pr) (x : Pr) (w : World) (e : Ending) (w' : World) : Prop := ∃ k : Nat, l[k]? = some x ∧ e = .returned (.int .i64 (k : Int)) ∧ Below w.heap.size w w'
theorem pair_ne {a b : Pr} (h : a ≠ b) : (a.1 == b.1) = false ∨ ((a.1 == b.1) = true ∧ (a.2 == b.2) = false) := by
  by_cases h1 : a.1 = b.1
  · exact .inr ⟨beq_true h1, beq_false fun h2 => h (Prod.ext h1 h2)⟩
  · exact .inl (beq_false h1)
set_option maxRecDepth 100000 in
set_option maxHeartbeats 4000000 in
theorem find_any (v : Value) (l : List Pr) (x : Pr) (hx : x ∈ l) (hl : l.length ≤ 1000000) (w : World) (h : LstP w v l) :
    Calls Try.prog 36 #[v, .agg #[.int .i64 x.1, .int .i64 x.2]] w (Found l x w) := by
  have hh := h
  obtain ⟨A, c, rfl, -⟩ := hh
  have H := Lib.hid h
  have HX := Lib.hid hx
  clear h hx
  go_enter Try.func36, Try.ntmps36
  go_wp2_with fail
  have rx := heap_alloc_new w (.cells #[.int .i64 x.1, .int .i64 x.2] 28 (0, 0))
  have b0 : Below w.heap.size w (w.alloc (.cells #[.int .i64 x.1, .int .i64 x.2] 28 (0, 0))) := (Below.refl _ _).alloc (Nat.le_refl _) _
  generalize w.alloc (.cells #[.int .i64 x.1, .int .i64 x.2] 28 (0, 0)) = w0 at rx b0 ⊢
  have B0 := Lib.hid b0
  have RX := Lib.hid rx
  clear b0 rx
  go_loopw [5] (fun u wr => ∃ (k : Nat), u = .int .i64 (k : Int) ∧ k ≤ l.length ∧ Hid (∀ j, j < k → l[j]? ≠ some x) ∧ Hid (Below w0.heap.size w0 wr)) (fun u _ => l.length - (intOf u).toNat)
  case atStart => exact ⟨0, rfl, Nat.zero_le _, fun j hj => absurd hj (Nat.not_lt_zero _), Lib.hid (Below.refl _ _)⟩
  case round =>
    obtain ⟨k, rfl, hk, HN, HB⟩ := hrel
    by_cases hlt : k < l.length
    · obtain ⟨y, hy⟩ := at_lt hlt
      obtain ⟨b, o, d, hv, hb, y0, y1⟩ := LstG.pair H.out hy
      cases hv
      have BW : Below w.heap.size w wr := B0.out.trans (HB.out.mono B0.out.size)
      rw [← BW.cell (p := ⟨b, _, none⟩) hb] at y0 y1
      have hpl : w.heap.size < w0.heap.size := Tag.lt ⟨_, _, RX.out⟩
      have rx := (HB.out.block w.heap.size hpl).trans RX.out
      have x0 : wr.cell? ⟨w.heap.size, 0, none⟩ = some (.int .i64 x.1) := by rw [cell_of_row _ _ 0 _ _ _ rx]; rfl
      have x1 : wr.cell? ⟨w.heap.size, 1, none⟩ = some (.int .i64 x.2) := by rw [cell_of_row _ _ 1 _ _ _ rx]; rfl
      have gk : (k : Int) < (l.length : Int) := by omega
      have BB := Lib.hid BW
      clear BW rx
      by_cases e : y = x
      · subst e
        have HY := Lib.hid hy
        clear hy
        go_wp2_with fail
        go_quiet (fail)
        go_wp2_with fail
        go_ret
        exact ⟨k, HY.out, rfl, below_drewN BB.out _⟩
      · have q := pair_ne e
        have N : Hid (∀ j, j < k + 1 → l[j]? ≠ some x) := fun j hj => by
          by_cases e1 : j = k
          · subst e1; rw [hy]; exact fun h => e (Option.some.inj h)
          · exact HN.out j (by omega)
        clear hy HN e
        rcases q with q1 | ⟨q1, q2⟩
        all_goals
          go_wp2_with fail
          go_quiet (fail)
          go_wp2_with fail
          go_roundw
          case rel => exact ⟨k + 1, by go_num, by omega, N, below_drewN HB.out _⟩
          case measure => simp [intOf]; omega
    · exfalso
      obtain ⟨j, hj⟩ := List.mem_iff_getElem?.1 HX.out
      exact HN.out j (by have := (List.getElem?_eq_some_iff.1 hj).1; omega) hj
set_option maxRecDepth 100000 in
set_option maxHeartbeats 4000000 in
theorem permuted_any (v v' : Value) (l l' : List Pr) (hp : l.Perm l') (hl : l.length ≤ 1000000) (w : World) (h : LstP w v l) (h' : LstP w v' l') :
    Calls Try.prog 22 #[v, v'] w fun e w' => e = .returned (.bool true) ∧ Below w.heap.size w w' := by
  have hh := h
  obtain ⟨A, c, rfl, -⟩ := hh
  have hh' := h'
  obtain ⟨A', c', rfl, -⟩ := hh'
  have H := Lib.hid h
  have H' : Hid (LstP w (.slice A' l'.length c') l') := h'
  have hle := hp.length_eq
  have q : ((l.length : Int) != (l'.length : Int)) = false := neq_false (by omega)
  have HP := Lib.hid hp
  clear h h' hp hle
  go_enter Try.func22, Try.ntmps22
  go_wp2_with fail
  clear q
  go_loopw [1, 5] (fun u1 u wr => ∃ (k : Nat) (rest : List Pr), u = .int .i64 (k : Int) ∧ k ≤ l.length ∧ Hid (LstP wr u1 rest) ∧ Hid (rest.Perm (l.drop k)) ∧ Hid (Below w.heap.size w wr)) (fun _ u _ => l.length - (intOf u).toNat)
  case atStart => exact ⟨0, l', rfl, Nat.zero_le _, H', HP.out.symm, Lib.hid (Below.refl _ _)⟩
  case round =>
    obtain ⟨k, rest, rfl, hk, HL, HR, HB⟩ := hrel
    by_cases hlt : k < l.length
    · obtain ⟨x, hx⟩ := at_lt hlt
      obtain ⟨b, o, d, hv, hb, x0, x1⟩ := LstG.pair H.out hx
      cases hv
      rw [← HB.out.cell (p := ⟨b, _, none⟩) hb] at x0 x1
      have hd : l.drop k = x :: l.drop (k + 1) := by
        obtain ⟨h1, h2⟩ := List.getElem?_eq_some_iff.1 hx
        rw [List.drop_eq_getElem_cons h1, h2]
      have hlr : rest.length ≤ 1000000 := by rw [HR.out.length_eq, List.length_drop]; omega
      have C := Lib.hid (find_any u1 rest x (HR.out.symm.subset (by rw [hd]; exact List.mem_cons_self)) hlr wr HL.out)
      have gk : (k : Int) < (l.length : Int) := by omega
      have HD := Lib.hid hd
      obtain ⟨A2, c2, hu, -⟩ := HL.out
      subst hu
      clear hx hd
      go_wp2_with fail
      refine C.out.mono ?_
      rintro e w1 ⟨j, hj, rfl, b1⟩
      have L1 := Lib.hid (HL.out.below b1)
      have B1 : Hid (Below w.heap.size w w1) := HB.out.trans (b1.mono HB.out.size)
      have HJ := Lib.hid hj
      have hjl := (List.getElem?_eq_some_iff.1 hj).1
      have gj : decide ((j : Int) < 0) = false := by simp
      clear b1 hj x0 x1 HL HB C
      go_wp2_with fail
      refine (without_any _ rest j hlr w1 L1.out).mono ?_
      rintro e w2 ⟨v2, rfl, o2, b2⟩
      have R : Hid (LstP w2 v2 (rest.eraseIdx j) ∧ (rest.eraseIdx j).Perm (l.drop (k + 1)) ∧ Below w.heap.size w w2) := by
        refine ⟨OwnG.lst o2, ?_, B1.out.trans (b2.mono B1.out.size)⟩
        have p1 := erase_perm HJ.out
        have p2 := p1.symm.trans HR.out
        rw [HD.out] at p2
        exact p2.cons_inv
      clear o2 b2 L1 B1 HR HD HJ
      go_wp2_with fail
      go_roundw
      case rel => exact ⟨k + 1, _, by go_num, by omega, R.out.1, R.out.2.1, R.out.2.2⟩
      case measure => simp [intOf]; omega
    · have hkl : k = l.length := by omega
      subst hkl
      have d : decide (l.length < l.length) = false := by simp
      go_wp2_with fail
      go_ret
      exact ⟨rfl, HB.out⟩
end Go.Proofs.Ytnmomkldlajimaa
